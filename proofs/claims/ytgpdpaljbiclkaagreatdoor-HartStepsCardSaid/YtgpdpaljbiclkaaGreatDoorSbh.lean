/-
  Proved here: what done of the code answers of what loads or stores. Conditions: the hart's numbers are words; the memory is one that a call made, of at most 2^24 bytes; the table of codes holds what its text lays.
-/
import Derived.Test.YtgpdpaljbiclkaaGreatDoorSzz
import Derived.Test.YtgpdpaljbiclkaaGreatDoorSbg
import Derived.StillTailTactics
import Derived.Deep.RegionHeld3
set_option maxHeartbeats 4000000
set_option maxRecDepth 100000
namespace Go.Proofs.YtgpdpaljbiclkaaGreatDoor
open _root_.Go.Proofs.Tryz
open Go.RowKit
set_option linter.unusedVariables false
set_option linter.unusedSimpArgs false
theorem Zc{P:Program}{md:Region.Mode}{l:List Oper}{Q:Exit→Act→World→Prop}{S:World→Prop}{i:Nat}{oi:Oper}{v:Value}{fuel:Nat}{listed:Array Bool}{a:Act}{w:World}(hi:l[i]? =some oi)
  (hs:Region.noSelect l.toArray=true) (hf:Region.free md l.toArray listed i=true) (hr:(Region.ready md l.toArray listed).contains i=true)
  (hQ:∀c a w,Q (.panic c) (a.put oi.dst v) w→Q (.panic c) a w) (hy:YieldsIf P l.toArray S oi v a) (hS:S w)
  (h:wpAnyH P md l.toArray Q S fuel (listed.setIfInBounds i true) (a.put oi.dst v) w):wpAnyH P md l.toArray Q S (fuel+1) listed a w:=
 wpAnyH_take (by rw[List.getElem?_toArray];exact hi) hs hf hr hQ hy hS h
theorem Zt{P:Program}{ops:Array Oper}{S:World→Prop}{op:Oper}{a:Act}(hw:Region.wanted op (yielded ops a.tmps)=true)(ty:TypeId)(x:Operand)(ho:op.op=.load ty x)
  (p:Addr) (hx:a.eval x=.pointer (some p)) (v:Value) (hS:∀w,S w→(loadVar ty p).run P w=.ok v w):YieldsIf P ops S op v a:=
 .inl ⟨hw,fun w hw'=>by
  unfold execOp
  simp only[ho,hx,Instr.loadAt,Instr.sureAddr,Sem.run_bind,Sem.run_pure,Result.andThen_ok,hS w hw']⟩
theorem ZQ{P:Program}{md:Region.Mode}{l:List Oper}{Q:Exit→Act→World→Prop}{S:World→Prop}{fuel:Nat}{listed:Array Bool}{a:Act}{w:World}{i:Nat}{o:Oper}{rs:List Nat}(ho:l[i]? =some o)
  (hwant:Region.wanted o (yielded l.toArray a.tmps)=true)
  (h:∀K':Act→World→Prop,Shut (∀a w,S w→(S w→wpAnyH P md l.toArray Q S fuel (listed.setIfInBounds i true) a w)→K' a w)→Oper.wp P o a w K' Q)
  (hs:AllReadyH P md l.toArray Q S fuel listed a w rs):AllReadyH P md l.toArray Q S fuel listed a w (i::rs):=
 AllReadyH.cons (by rw[List.getElem?_toArray];exact ho) (fun K' hK=>by rw[if_pos hwant];exact h K' hK) hs
theorem XG{w:World}{B:Nat}{a b c d:Array Value}{t u v:TypeId}(h:w.heap[B]? =some (.cells a t (0,0))∧w.heap[B+1]? =some (.cells b u (0,0)))(k:w.heap[B+1+1]? =some (.cells c v (0,0))):
  (w.setRow (B+1+1) d).heap[B]? =some (.cells a t (0,0))∧(w.setRow (B+1+1) d).heap[B+1]? =some (.cells b u (0,0)):=by
 have e:∀j,j≠B+1+1→(w.setRow (B+1+1) d).heap[j]? =w.heap[j]? :=fun j hj=>setRow_other w (B+1+1) j d hj
 exact⟨(e _ (by omega)).trans h.1,(e _ (by omega)).trans h.2⟩
theorem ld_q(op raw:Int)(qr:InU raw)(w:World):Calls prog 54 #[.int .i64 op,.int .u64 raw] w fun e w'=>e=.returned (.int .u64 (LdB op raw))∧w'=w:=(ld_any op raw qr w).mono fun _ _ ⟨h,k⟩=>⟨h,k.symm⟩
theorem Yd(h:HV)(k:h.x.length=32)(t:Bool)(a s:Int):(((hC h).toArray.setIfInBounds 33 (.bool t)).setIfInBounds 34 (.int .u64 a)).setIfInBounds 35 (.int .i64 s)=(hC {h with held:=t,addr:=a,size:=s}).toArray:=by
 have hx:(xV h.x).length=32:=by rw[YW];exact k
 unfold hC
 apply Array.ext'
 simp[List.set_append,hx]
theorem YE{w:World}{g:Nat}{h:HV}(kH:w.heap[g]? =some (.cells (hC h).toArray 25 (0,0)))(k:h.x.length=32):
  w.cell? ⟨g,0,none⟩=some (.int .u64 h.pc)∧w.cell? ⟨g,33,none⟩=some (.bool h.held)∧w.cell? ⟨g,34,none⟩=some (.int .u64 h.addr)∧w.cell? ⟨g,35,none⟩=some (.int .i64 h.size):=by
 have hx:(xV h.x).length=32:=by rw[YW];exact k
 refine⟨?_,?_,?_,?_⟩<;>rw[cell_of_row _ _ _ _ _ _ kH,List.getElem?_toArray]<;>unfold hC
 ·rfl
 ·rw[List.getElem?_cons_succ,List.getElem?_append_right (by omega),hx];rfl
 ·rw[List.getElem?_cons_succ,List.getElem?_append_right (by omega),hx];rfl
 ·rw[List.getElem?_cons_succ,List.getElem?_append_right (by omega),hx];rfl
theorem Kv(op at_ s b:Int)(bs:By):InU (ZO op at_ s b bs).1:=by
 unfold ZO
 have:=Yl bs at_ s
 unfold InU
 split<;>(split<;>omega)
theorem XU{a c:World}{P:Prop}{B:Nat}{v0 v1 v2 v3 v4 v5 v6:Value}{W:World}(hn:Nb a c)(h:Nb W a∧B<a.heap.size∧a.cell? ⟨B,0,none⟩=some v0∧a.cell? ⟨B,1,none⟩=some v1∧a.cell? ⟨B,2,none⟩=some v2∧a.cell? ⟨B,3,none⟩=some v3∧a.cell? ⟨B,4,none⟩=some v4∧a.cell? ⟨B,5,none⟩=some v5∧a.cell? ⟨B,6,none⟩=some v6):
  Nb W c∧B<c.heap.size∧c.cell? ⟨B,0,none⟩=some v0∧c.cell? ⟨B,1,none⟩=some v1∧c.cell? ⟨B,2,none⟩=some v2∧c.cell? ⟨B,3,none⟩=some v3∧c.cell? ⟨B,4,none⟩=some v4∧c.cell? ⟨B,5,none⟩=some v5∧c.cell? ⟨B,6,none⟩=some v6:=by
 obtain⟨h0,h1,c0,c1,c2,c3,c4,c5,c6⟩:=h
 exact⟨h0.trans hn,Nat.lt_of_lt_of_le h1 (Below.size hn),hn.cell c0,hn.cell c1,hn.cell c2,hn.cell c3,hn.cell c4,hn.cell c5,hn.cell c6⟩
theorem Z3y(h:HV)(i:In7)(a b:Int)(p q:Nat)(bs:By)(hh:HOk h)(qa:InU a)(qb:InU b)(qt:InU (AdB i.1 i.2.2.2.2.1 a))(hL:Zz i.1=true)(hop:i.1≠66∧i.1≠77∧i.1≠67∧i.1≠78)(hl:bs.length≤16777216)(w:World)(hC0:Cod w)(hM:Mem 85 w p q bs):
  Calls prog 23 #[hA h,i7A i,.int .u64 a,.int .u64 b,.pointer (some ⟨p,0,none⟩)] w (ZY h i a b bs p q w):=by
 have e0:=Lib.hid (show ZC h i a b bs=(h,LdB i.1 (ZO i.1 (AdB i.1 i.2.2.2.2.1 a) (Za i.1) b bs).1,(ZO i.1 (AdB i.1 i.2.2.2.2.1 a) (Za i.1) b bs).2.1,(ZO i.1 (AdB i.1 i.2.2.2.2.1 a) (Za i.1) b bs).2.2) from by
  unfold ZC
  rw[if_neg (by rw[hL];simp),if_neg (by omega),if_neg (by omega)])
 have h1:=Lib.hid (ZZ i.1)
 rw[hL] at h1
 have d66:(i.1==66)=false:=nB (by omega)
 have d77:(i.1==77)=false:=nB (by omega)
 have d67:(i.1==67)=false:=nB (by omega)
 have d78:(i.1==78)=false:=nB (by omega)
 clear hL hop
 have HA:=Lib.hid (YU i.1 i.2.1 i.2.2.1 i.2.2.2.1 i.2.2.2.2.1 a i.2.2.2.2.2.1 i.2.2.2.2.2.2)
 have HZ:=Lib.hid (Yo i.1)
 have hlen:=Lib.hid hh.len
 have hlen2:=Lib.hid (show(hC h).toArray.size=36 by rw[List.size_toArray];exact Zv (by exact hh.len))
 have hone:=Lib.hid (Zu (ZI h))
 have hMlt:=hM.lt
 clear hh
 unfold ZY
 rw[e0.out]
 dsimp only
 unfold hA i7A
 go_enter func23,ntmps23
 go_upto_region 1 with(fail)
 obtain⟨W1,w1e⟩:∃W1,((w.alloc (Obj.cells (hC h).toArray 25)).alloc (Obj.cells #[.int .i64 i.1,.int .i64 i.2.1,.int .i64 i.2.2.1,.int .i64 i.2.2.2.1,.int .i64 i.2.2.2.2.1,.bool i.2.2.2.2.2.1,.bool i.2.2.2.2.2.2] 50)).alloc (Obj.cells #[.int .u64 0,.int .u64 0,.int .u64 0,.int .u64 0,.int .u64 0,.int .u64 0,.int .u64 0,.int .u64 0,.int .u64 0,.int .u64 0,.int .u64 0,.int .u64 0,.int .u64 0,.int .u64 0,.int .u64 0,.int .u64 0,.int .u64 0,.int .u64 0,.int .u64 0,.int .u64 0,.int .u64 0,.int .u64 0,.int .u64 0,.int .u64 0,.int .u64 0,.int .u64 0,.int .u64 0,.int .u64 0,.int .u64 0,.int .u64 0,.int .u64 0,.int .u64 0,.int .u64 0,.bool false,.int .u64 0,.int .i64 0] 25)=W1:=⟨_,rfl⟩
 have n1:Nb w W1:=by rw[←w1e];exact(((Nb.refl _).alloc _).alloc _).alloc _
 have kH:W1.heap[w.heap.size]? =some (.cells (hC h).toArray 25 (0,0)):=by rw[←w1e];exact Zo (Zo (Zd _ _ rfl) _) _
 have kI:W1.heap[w.heap.size+1]? =some (.cells #[.int .i64 i.1,.int .i64 i.2.1,.int .i64 i.2.2.1,.int .i64 i.2.2.2.1,.int .i64 i.2.2.2.2.1,.bool i.2.2.2.2.2.1,.bool i.2.2.2.2.2.2] 50 (0,0)):=by rw[←w1e];exact Zo (Zd _ _ (by simp)) _
 have kZ:W1.heap[w.heap.size+1+1]? =some (.cells Z8 25 (0,0)):=by rw[←w1e];exact Zd _ _ (by simp)
 rw[w1e]
 clear w1e
 obtain⟨z,c0,c1,c2,c3,c4,c5,c6⟩:=Z4 kI
 go_wp2_with fail
 refine(h1.out _).mono ?_
 rintro e w'⟨rfl,rfl⟩
 go_upto_region 4 with(fail)
 go_region_held3 (fun w'=>Nb W1 w'∧w.heap.size+1<w'.heap.size∧w'.cell? ⟨w.heap.size+1,0,none⟩=some (.int .i64 i.1)∧w'.cell? ⟨w.heap.size+1,1,none⟩=some (.int .i64 i.2.1)∧w'.cell? ⟨w.heap.size+1,2,none⟩=some (.int .i64 i.2.2.1)∧w'.cell? ⟨w.heap.size+1,3,none⟩=some (.int .i64 i.2.2.2.1)∧w'.cell? ⟨w.heap.size+1,4,none⟩=some (.int .i64 i.2.2.2.2.1)∧w'.cell? ⟨w.heap.size+1,5,none⟩=some (.bool i.2.2.2.2.2.1)∧w'.cell? ⟨w.heap.size+1,6,none⟩=some (.bool i.2.2.2.2.2.2))
  (first|assumption|(exact XU (P:=True) (by assumption) (by assumption))|(exact⟨(Nb.refl _).trans ((Nb.refl _).drewN 1),z,c0,c1,c2,c3,c4,c5,c6⟩))
  (first
   |(go_at_call 51;refine(HA.out _).mono ?_;rintro e w1⟨rfl,hnA⟩)
   |(go_at_call 52;refine(HZ.out _).mono ?_;rintro e w1⟨rfl,rfl⟩))
 rename_i hH
 have n4:=n1.trans hH.1
 replace kH:=hH.1.block kH
 replace kI:=hH.1.block kI
 replace kZ:=hH.1.block kZ
 clear z c0 c1 c2 c3 c4 c5 c6 hH HA HZ
 have hM4:=hM.nb n4
 have z4:=Below.size n4
 obtain⟨z,c0,c1,c2,c3,c4,c5,c6⟩:=Z4 kI
 go_wp2_with fail
 refine(Xj i.1 (AdB i.1 i.2.2.2.2.1 a) (Za i.1) b p q bs qt qb hl _ hM4).mono ?_
 rintro e w5⟨rfl,hM5,g5⟩
 have kH5:=(g5.block _ (Zf kH) (by intro e;injection e with e;omega)).trans kH
 have kI5:=(g5.block _ (Zf kI) (by intro e;injection e with e;omega)).trans kI
 have kZ5:=(g5.block _ (Zf kZ) (by intro e;injection e with e;omega)).trans kZ
 have hmi:=Kv i.1 (AdB i.1 i.2.2.2.2.1 a) (Za i.1) b bs
 have gg:=Zx n4 g5
 clear z c0 c1 c2 c3 c4 c5 c6 kH kI kZ hM4 g5
 go_upto_region 16 with(fail)
 have gK:w.grownBy w5.drew (some q):=⟨gg.os,gg.tape,gg.output,gg.size,gg.block⟩
 have hM6:Mem 85 w5.drew p q (ZO i.1 (AdB i.1 i.2.2.2.2.1 a) (Za i.1) b bs).2.2:=hM5
 refine wp_region_held_drew (S:=fun w'=>w'.heap[w.heap.size]? =some (.cells (hC h).toArray 25 (0,0))∧w'.heap[w.heap.size+1]? =some (.cells #[.int .i64 i.1,.int .i64 i.2.1,.int .i64 i.2.2.1,.int .i64 i.2.2.2.1,.int .i64 i.2.2.2.2.1,.bool i.2.2.2.2.2.1,.bool i.2.2.2.2.2.2] 50 (0,0))) (by kernel_rfl) ⟨kH5,kI5⟩ (fun hHeld=> ?_)
 change wpAnyH _ _ _ _ _ 9 (List.toArray [false,false,false,false,false,false,false,false,false]) _ _
 refine Zc (i:=0) (v:= .agg (hC h).toArray) rfl (by kernel_rfl) (by kernel_rfl) (by kernel_rfl) (fun _ _ _ h=>h) (Zt (by rfl) 25 (.tmp 5) rfl ⟨w.heap.size,0,none⟩ rfl _ (fun w' hw=>Z09 _ _ _ _ _ hw.1 hlen2.out)) hHeld ?_
 simp only[Act.put,sI,sZ,sS]
 refine Zc (i:=1) (v:= .pointer (some ⟨w.heap.size+1,0,none⟩)) rfl (by kernel_rfl) (by kernel_rfl) (by kernel_rfl) (fun _ _ _ h=>h) (.inl ⟨by rfl,by intro w' hw;go_simp⟩) hHeld ?_
 simp only[Act.put,sI,sZ,sS]
 refine Zc (i:=2) (v:= .int .i64 i.1) rfl (by kernel_rfl) (by kernel_rfl) (by kernel_rfl) (fun _ _ _ h=>h) (.inl ⟨by rfl,by intro w' hw;have hc0:=(Z4 hw.2).2.1;clear hw;go_simp⟩) hHeld ?_
 simp only[Act.put,sI,sZ,sS]
 refine Zc (i:=3) (v:= .int .u64 (ZO i.1 (AdB i.1 i.2.2.2.2.1 a) (Za i.1) b bs).1) rfl (by kernel_rfl) (by kernel_rfl) (by kernel_rfl) (fun _ _ _ h=>h) (.inl ⟨by rfl,by intro w' hw;go_simp⟩) hHeld ?_
 simp only[Act.put,sI,sZ,sS]
 refine Zc (i:=5) (v:= .int .i64 (ZO i.1 (AdB i.1 i.2.2.2.2.1 a) (Za i.1) b bs).2.1) rfl (by kernel_rfl) (by kernel_rfl) (by kernel_rfl) (fun _ _ _ h=>h) (.inl ⟨by rfl,by intro w' hw;go_simp⟩) hHeld ?_
 simp only[Act.put,sI,sZ,sS]
 have kZ6:w5.drew.heap[w.heap.size+1+1]? =some (.cells Z8 25 (0,0)):=kZ5
 clear kH5 kI5 kZ5 hM5 gg
 generalize w5.drew=w6 at*
 refine wpAnyH_ready (rs:=[4]) (by kernel_rfl) (by simp) (ZQ rfl (by rfl) (fun K hK=> ?_) .nil)
 go_simp
 refine(ld_q _ _ (by assumption) _).mono ?_
 rintro e w7⟨rfl,rfl⟩
 refine hK.out _ _ hHeld (fun hHeld=> ?_)
 clear hK K
 simp only[Act.put,sI,sZ,sS]
 refine wpAnyH_ready (rs:=[6]) (by kernel_rfl) (by simp) (ZQ rfl (by rfl) (fun K hK=> ?_) .nil)
 refine wp_store_row 25 (.tmp 10) (.tmp 90) rfl (w.heap.size+1+1) (hC h).toArray rfl rfl 25 _ kZ6 (by rw[ZA,hlen2.out]) (by rw[hlen2.out];rfl) hone.out ?_
 refine hK.out _ _ (XG hHeld kZ6) (fun hHeld=> ?_)
 clear hK K
 simp only[Act.put,sI,sZ,sS]
 refine Zc (i:=7) (v:= .int .u64 (LdB i.1 (ZO i.1 (AdB i.1 i.2.2.2.2.1 a) (Za i.1) b bs).1)) rfl (by kernel_rfl) (by kernel_rfl) (by kernel_rfl) (fun _ _ _ h=>h) (.inl ⟨by rfl,by intro w' hw;go_simp⟩) hHeld ?_
 simp only[Act.put,sI,sZ,sS]
 refine Zc (i:=8) (v:= .int .i64 (ZO i.1 (AdB i.1 i.2.2.2.2.1 a) (Za i.1) b bs).2.1) rfl (by kernel_rfl) (by kernel_rfl) (by kernel_rfl) (fun _ _ _ h=>h) (.inl ⟨by rfl,by intro w' hw;go_simp⟩) hHeld ?_
 simp only[Act.put,sI,sZ,sS]
 refine wpAnyH_done (by kernel_rfl) ?_ _
 go_wp2_with fail
 exact YL gK hM6 kZ6 hlen2.out (by omega) _ _ _ rfl rfl rfl
theorem Z2f(h:HV)(i:In7)(a b:Int)(p q:Nat)(bs:By)(hh:HOk h)(qa:InU a)(qb:InU b)(qt:InU (AdB i.1 i.2.2.2.2.1 a))(hL:Zz i.1=false)(hS:Zq i.1=true)(hop:i.1≠66∧i.1≠77∧i.1≠67∧i.1≠78)(hl:bs.length≤16777216)(w:World)(hC0:Cod w)(hM:Mem 85 w p q bs):
  Calls prog 23 #[hA h,i7A i,.int .u64 a,.int .u64 b,.pointer (some ⟨p,0,none⟩)] w (ZY h i a b bs p q w):=by
 have e0:=Lib.hid (show ZC h i a b bs=(h,LdB i.1 (ZO i.1 (AdB i.1 i.2.2.2.2.1 a) (Za i.1) b bs).1,(ZO i.1 (AdB i.1 i.2.2.2.2.1 a) (Za i.1) b bs).2.1,(ZO i.1 (AdB i.1 i.2.2.2.2.1 a) (Za i.1) b bs).2.2) from by
  unfold ZC
  rw[if_neg (by rw[hS];simp),if_neg (by omega),if_neg (by omega)])
 have h1:=Lib.hid (ZZ i.1)
 rw[hL] at h1
 have h2:=Lib.hid (Y4 i.1)
 rw[hS] at h2
 have d66:(i.1==66)=false:=nB (by omega)
 have d77:(i.1==77)=false:=nB (by omega)
 have d67:(i.1==67)=false:=nB (by omega)
 have d78:(i.1==78)=false:=nB (by omega)
 clear hL hS hop
 have HA:=Lib.hid (YU i.1 i.2.1 i.2.2.1 i.2.2.2.1 i.2.2.2.2.1 a i.2.2.2.2.2.1 i.2.2.2.2.2.2)
 have HZ:=Lib.hid (Yo i.1)
 have hlen:=Lib.hid hh.len
 have hlen2:=Lib.hid (show(hC h).toArray.size=36 by rw[List.size_toArray];exact Zv (by exact hh.len))
 have hone:=Lib.hid (Zu (ZI h))
 have hMlt:=hM.lt
 clear hh
 unfold ZY
 rw[e0.out]
 dsimp only
 unfold hA i7A
 go_enter func23,ntmps23
 go_upto_region 1 with(fail)
 obtain⟨W1,w1e⟩:∃W1,((w.alloc (Obj.cells (hC h).toArray 25)).alloc (Obj.cells #[.int .i64 i.1,.int .i64 i.2.1,.int .i64 i.2.2.1,.int .i64 i.2.2.2.1,.int .i64 i.2.2.2.2.1,.bool i.2.2.2.2.2.1,.bool i.2.2.2.2.2.2] 50)).alloc (Obj.cells #[.int .u64 0,.int .u64 0,.int .u64 0,.int .u64 0,.int .u64 0,.int .u64 0,.int .u64 0,.int .u64 0,.int .u64 0,.int .u64 0,.int .u64 0,.int .u64 0,.int .u64 0,.int .u64 0,.int .u64 0,.int .u64 0,.int .u64 0,.int .u64 0,.int .u64 0,.int .u64 0,.int .u64 0,.int .u64 0,.int .u64 0,.int .u64 0,.int .u64 0,.int .u64 0,.int .u64 0,.int .u64 0,.int .u64 0,.int .u64 0,.int .u64 0,.int .u64 0,.int .u64 0,.bool false,.int .u64 0,.int .i64 0] 25)=W1:=⟨_,rfl⟩
 have n1:Nb w W1:=by rw[←w1e];exact(((Nb.refl _).alloc _).alloc _).alloc _
 have kH:W1.heap[w.heap.size]? =some (.cells (hC h).toArray 25 (0,0)):=by rw[←w1e];exact Zo (Zo (Zd _ _ rfl) _) _
 have kI:W1.heap[w.heap.size+1]? =some (.cells #[.int .i64 i.1,.int .i64 i.2.1,.int .i64 i.2.2.1,.int .i64 i.2.2.2.1,.int .i64 i.2.2.2.2.1,.bool i.2.2.2.2.2.1,.bool i.2.2.2.2.2.2] 50 (0,0)):=by rw[←w1e];exact Zo (Zd _ _ (by simp)) _
 have kZ:W1.heap[w.heap.size+1+1]? =some (.cells Z8 25 (0,0)):=by rw[←w1e];exact Zd _ _ (by simp)
 rw[w1e]
 clear w1e
 obtain⟨z,c0,c1,c2,c3,c4,c5,c6⟩:=Z4 kI
 go_wp2_with fail
 refine(h1.out _).mono ?_
 rintro e w'⟨rfl,rfl⟩
 go_wp2_with fail
 refine(h2.out _).mono ?_
 rintro e w'⟨rfl,rfl⟩
 go_upto_region 4 with(fail)
 go_region_held3 (fun w'=>Nb W1 w'∧w.heap.size+1<w'.heap.size∧w'.cell? ⟨w.heap.size+1,0,none⟩=some (.int .i64 i.1)∧w'.cell? ⟨w.heap.size+1,1,none⟩=some (.int .i64 i.2.1)∧w'.cell? ⟨w.heap.size+1,2,none⟩=some (.int .i64 i.2.2.1)∧w'.cell? ⟨w.heap.size+1,3,none⟩=some (.int .i64 i.2.2.2.1)∧w'.cell? ⟨w.heap.size+1,4,none⟩=some (.int .i64 i.2.2.2.2.1)∧w'.cell? ⟨w.heap.size+1,5,none⟩=some (.bool i.2.2.2.2.2.1)∧w'.cell? ⟨w.heap.size+1,6,none⟩=some (.bool i.2.2.2.2.2.2))
  (first|assumption|(exact XU (P:=True) (by assumption) (by assumption))|(exact⟨(Nb.refl _).trans ((Nb.refl _).drewN 1),z,c0,c1,c2,c3,c4,c5,c6⟩))
  (first
   |(go_at_call 51;refine(HA.out _).mono ?_;rintro e w1⟨rfl,hnA⟩)
   |(go_at_call 52;refine(HZ.out _).mono ?_;rintro e w1⟨rfl,rfl⟩))
 rename_i hH
 have n4:=n1.trans hH.1
 replace kH:=hH.1.block kH
 replace kI:=hH.1.block kI
 replace kZ:=hH.1.block kZ
 clear z c0 c1 c2 c3 c4 c5 c6 hH HA HZ
 have hM4:=hM.nb n4
 have z4:=Below.size n4
 obtain⟨z,c0,c1,c2,c3,c4,c5,c6⟩:=Z4 kI
 go_wp2_with fail
 refine(Xj i.1 (AdB i.1 i.2.2.2.2.1 a) (Za i.1) b p q bs qt qb hl _ hM4).mono ?_
 rintro e w5⟨rfl,hM5,g5⟩
 have kH5:=(g5.block _ (Zf kH) (by intro e;injection e with e;omega)).trans kH
 have kI5:=(g5.block _ (Zf kI) (by intro e;injection e with e;omega)).trans kI
 have kZ5:=(g5.block _ (Zf kZ) (by intro e;injection e with e;omega)).trans kZ
 have hmi:=Kv i.1 (AdB i.1 i.2.2.2.2.1 a) (Za i.1) b bs
 have gg:=Zx n4 g5
 clear z c0 c1 c2 c3 c4 c5 c6 kH kI kZ hM4 g5
 go_upto_region 16 with(fail)
 have gK:w.grownBy w5.drew (some q):=⟨gg.os,gg.tape,gg.output,gg.size,gg.block⟩
 have hM6:Mem 85 w5.drew p q (ZO i.1 (AdB i.1 i.2.2.2.2.1 a) (Za i.1) b bs).2.2:=hM5
 refine wp_region_held_drew (S:=fun w'=>w'.heap[w.heap.size]? =some (.cells (hC h).toArray 25 (0,0))∧w'.heap[w.heap.size+1]? =some (.cells #[.int .i64 i.1,.int .i64 i.2.1,.int .i64 i.2.2.1,.int .i64 i.2.2.2.1,.int .i64 i.2.2.2.2.1,.bool i.2.2.2.2.2.1,.bool i.2.2.2.2.2.2] 50 (0,0))) (by kernel_rfl) ⟨kH5,kI5⟩ (fun hHeld=> ?_)
 change wpAnyH _ _ _ _ _ 9 (List.toArray [false,false,false,false,false,false,false,false,false]) _ _
 refine Zc (i:=0) (v:= .agg (hC h).toArray) rfl (by kernel_rfl) (by kernel_rfl) (by kernel_rfl) (fun _ _ _ h=>h) (Zt (by rfl) 25 (.tmp 5) rfl ⟨w.heap.size,0,none⟩ rfl _ (fun w' hw=>Z09 _ _ _ _ _ hw.1 hlen2.out)) hHeld ?_
 simp only[Act.put,sI,sZ,sS]
 refine Zc (i:=1) (v:= .pointer (some ⟨w.heap.size+1,0,none⟩)) rfl (by kernel_rfl) (by kernel_rfl) (by kernel_rfl) (fun _ _ _ h=>h) (.inl ⟨by rfl,by intro w' hw;go_simp⟩) hHeld ?_
 simp only[Act.put,sI,sZ,sS]
 refine Zc (i:=2) (v:= .int .i64 i.1) rfl (by kernel_rfl) (by kernel_rfl) (by kernel_rfl) (fun _ _ _ h=>h) (.inl ⟨by rfl,by intro w' hw;have hc0:=(Z4 hw.2).2.1;clear hw;go_simp⟩) hHeld ?_
 simp only[Act.put,sI,sZ,sS]
 refine Zc (i:=3) (v:= .int .u64 (ZO i.1 (AdB i.1 i.2.2.2.2.1 a) (Za i.1) b bs).1) rfl (by kernel_rfl) (by kernel_rfl) (by kernel_rfl) (fun _ _ _ h=>h) (.inl ⟨by rfl,by intro w' hw;go_simp⟩) hHeld ?_
 simp only[Act.put,sI,sZ,sS]
 refine Zc (i:=5) (v:= .int .i64 (ZO i.1 (AdB i.1 i.2.2.2.2.1 a) (Za i.1) b bs).2.1) rfl (by kernel_rfl) (by kernel_rfl) (by kernel_rfl) (fun _ _ _ h=>h) (.inl ⟨by rfl,by intro w' hw;go_simp⟩) hHeld ?_
 simp only[Act.put,sI,sZ,sS]
 have kZ6:w5.drew.heap[w.heap.size+1+1]? =some (.cells Z8 25 (0,0)):=kZ5
 clear kH5 kI5 kZ5 hM5 gg
 generalize w5.drew=w6 at*
 refine wpAnyH_ready (rs:=[4]) (by kernel_rfl) (by simp) (ZQ rfl (by rfl) (fun K hK=> ?_) .nil)
 go_simp
 refine(ld_q _ _ (by assumption) _).mono ?_
 rintro e w7⟨rfl,rfl⟩
 refine hK.out _ _ hHeld (fun hHeld=> ?_)
 clear hK K
 simp only[Act.put,sI,sZ,sS]
 refine wpAnyH_ready (rs:=[6]) (by kernel_rfl) (by simp) (ZQ rfl (by rfl) (fun K hK=> ?_) .nil)
 refine wp_store_row 25 (.tmp 10) (.tmp 90) rfl (w.heap.size+1+1) (hC h).toArray rfl rfl 25 _ kZ6 (by rw[ZA,hlen2.out]) (by rw[hlen2.out];rfl) hone.out ?_
 refine hK.out _ _ (XG hHeld kZ6) (fun hHeld=> ?_)
 clear hK K
 simp only[Act.put,sI,sZ,sS]
 refine Zc (i:=7) (v:= .int .u64 (LdB i.1 (ZO i.1 (AdB i.1 i.2.2.2.2.1 a) (Za i.1) b bs).1)) rfl (by kernel_rfl) (by kernel_rfl) (by kernel_rfl) (fun _ _ _ h=>h) (.inl ⟨by rfl,by intro w' hw;go_simp⟩) hHeld ?_
 simp only[Act.put,sI,sZ,sS]
 refine Zc (i:=8) (v:= .int .i64 (ZO i.1 (AdB i.1 i.2.2.2.2.1 a) (Za i.1) b bs).2.1) rfl (by kernel_rfl) (by kernel_rfl) (by kernel_rfl) (fun _ _ _ h=>h) (.inl ⟨by rfl,by intro w' hw;go_simp⟩) hHeld ?_
 simp only[Act.put,sI,sZ,sS]
 refine wpAnyH_done (by kernel_rfl) ?_ _
 go_wp2_with fail
 exact YL gK hM6 kZ6 hlen2.out (by omega) _ _ _ rfl rfl rfl
theorem Z3z(h:HV)(i:In7)(a b:Int)(p q:Nat)(bs:By)(hh:HOk h)(qa:InU a)(qb:InU b)(qt:InU (AdB i.1 i.2.2.2.2.1 a))(hop:i.1=66)(hL:Zz i.1=true)(hl:bs.length≤16777216)(w:World)(hC0:Cod w)(hM:Mem 85 w p q bs):
  Calls prog 23 #[hA h,i7A i,.int .u64 a,.int .u64 b,.pointer (some ⟨p,0,none⟩)] w (ZY h i a b bs p q w):=by
 have e0:=Lib.hid (show ZC h i a b bs=({h with held:=true,addr:=(AdB i.1 i.2.2.2.2.1 a),size:=Za i.1},LdB i.1 (ZO i.1 (AdB i.1 i.2.2.2.2.1 a) (Za i.1) b bs).1,(ZO i.1 (AdB i.1 i.2.2.2.2.1 a) (Za i.1) b bs).2.1,(ZO i.1 (AdB i.1 i.2.2.2.2.1 a) (Za i.1) b bs).2.2) from by
  unfold ZC
  rw[if_neg (by rw[hL];simp),if_pos (by omega)])
 have h1:=Lib.hid (ZZ i.1)
 rw[hL] at h1
 have d66:(i.1==66)=true:=beq_iff_eq.2 hop
 have d67:(i.1==67)=false:=nB (by omega)
 have d78:(i.1==78)=false:=nB (by omega)
 clear hL hop
 have HA:=Lib.hid (YU i.1 i.2.1 i.2.2.1 i.2.2.2.1 i.2.2.2.2.1 a i.2.2.2.2.2.1 i.2.2.2.2.2.2)
 have HZ:=Lib.hid (Yo i.1)
 have hlen:=Lib.hid hh.len
 have hlen2:=Lib.hid (show(hC {h with held:=true,addr:=(AdB i.1 i.2.2.2.2.1 a),size:=Za i.1}).toArray.size=36 by rw[List.size_toArray];exact Zv (by exact hh.len))
 have hone:=Lib.hid (Zu (ZI {h with held:=true,addr:=(AdB i.1 i.2.2.2.2.1 a),size:=Za i.1}))
 have hMlt:=hM.lt
 clear hh
 unfold ZY
 rw[e0.out]
 dsimp only
 unfold hA i7A
 go_enter func23,ntmps23
 go_upto_region 1 with(fail)
 obtain⟨W1,w1e⟩:∃W1,((w.alloc (Obj.cells (hC h).toArray 25)).alloc (Obj.cells #[.int .i64 i.1,.int .i64 i.2.1,.int .i64 i.2.2.1,.int .i64 i.2.2.2.1,.int .i64 i.2.2.2.2.1,.bool i.2.2.2.2.2.1,.bool i.2.2.2.2.2.2] 50)).alloc (Obj.cells #[.int .u64 0,.int .u64 0,.int .u64 0,.int .u64 0,.int .u64 0,.int .u64 0,.int .u64 0,.int .u64 0,.int .u64 0,.int .u64 0,.int .u64 0,.int .u64 0,.int .u64 0,.int .u64 0,.int .u64 0,.int .u64 0,.int .u64 0,.int .u64 0,.int .u64 0,.int .u64 0,.int .u64 0,.int .u64 0,.int .u64 0,.int .u64 0,.int .u64 0,.int .u64 0,.int .u64 0,.int .u64 0,.int .u64 0,.int .u64 0,.int .u64 0,.int .u64 0,.int .u64 0,.bool false,.int .u64 0,.int .i64 0] 25)=W1:=⟨_,rfl⟩
 have n1:Nb w W1:=by rw[←w1e];exact(((Nb.refl _).alloc _).alloc _).alloc _
 have kH:W1.heap[w.heap.size]? =some (.cells (hC h).toArray 25 (0,0)):=by rw[←w1e];exact Zo (Zo (Zd _ _ rfl) _) _
 have kI:W1.heap[w.heap.size+1]? =some (.cells #[.int .i64 i.1,.int .i64 i.2.1,.int .i64 i.2.2.1,.int .i64 i.2.2.2.1,.int .i64 i.2.2.2.2.1,.bool i.2.2.2.2.2.1,.bool i.2.2.2.2.2.2] 50 (0,0)):=by rw[←w1e];exact Zo (Zd _ _ (by simp)) _
 have kZ:W1.heap[w.heap.size+1+1]? =some (.cells Z8 25 (0,0)):=by rw[←w1e];exact Zd _ _ (by simp)
 rw[w1e]
 clear w1e
 obtain⟨z,c0,c1,c2,c3,c4,c5,c6⟩:=Z4 kI
 go_wp2_with fail
 refine(h1.out _).mono ?_
 rintro e w'⟨rfl,rfl⟩
 go_upto_region 4 with(fail)
 go_region_held3 (fun w'=>Nb W1 w'∧w.heap.size+1<w'.heap.size∧w'.cell? ⟨w.heap.size+1,0,none⟩=some (.int .i64 i.1)∧w'.cell? ⟨w.heap.size+1,1,none⟩=some (.int .i64 i.2.1)∧w'.cell? ⟨w.heap.size+1,2,none⟩=some (.int .i64 i.2.2.1)∧w'.cell? ⟨w.heap.size+1,3,none⟩=some (.int .i64 i.2.2.2.1)∧w'.cell? ⟨w.heap.size+1,4,none⟩=some (.int .i64 i.2.2.2.2.1)∧w'.cell? ⟨w.heap.size+1,5,none⟩=some (.bool i.2.2.2.2.2.1)∧w'.cell? ⟨w.heap.size+1,6,none⟩=some (.bool i.2.2.2.2.2.2))
  (first|assumption|(exact XU (P:=True) (by assumption) (by assumption))|(exact⟨(Nb.refl _).trans ((Nb.refl _).drewN 1),z,c0,c1,c2,c3,c4,c5,c6⟩))
  (first
   |(go_at_call 51;refine(HA.out _).mono ?_;rintro e w1⟨rfl,hnA⟩)
   |(go_at_call 52;refine(HZ.out _).mono ?_;rintro e w1⟨rfl,rfl⟩))
 rename_i hH
 have n4:=n1.trans hH.1
 replace kH:=hH.1.block kH
 replace kI:=hH.1.block kI
 replace kZ:=hH.1.block kZ
 clear z c0 c1 c2 c3 c4 c5 c6 hH HA HZ
 have hM4:=hM.nb n4
 have z4:=Below.size n4
 obtain⟨z,c0,c1,c2,c3,c4,c5,c6⟩:=Z4 kI
 obtain⟨cP,q33,q34,q35⟩:=YE kH hlen.out
 have f33:=Z6 kH 33
 have f34:=Z6 kH 34
 have f35:=Z6 kH 35
 go_upto_region 15 with(fail)
 obtain⟨W5,w5e⟩:∃W5,((w1.setCell ⟨w.heap.size,33,none⟩ (.bool true)).setCell ⟨w.heap.size,34,none⟩ (.int .u64 (AdB i.1 i.2.2.2.2.1 a))).setCell ⟨w.heap.size,35,none⟩ (.int .i64 (Za i.1))=W5:=⟨_,rfl⟩
 have kH4:W5.heap[w.heap.size]? =some (.cells (hC {h with held:=true,addr:=(AdB i.1 i.2.2.2.2.1 a),size:=Za i.1}).toArray 25 (0,0)):=by rw[←w5e,Zg (Zg (Zg kH 33 _) 34 _) 35 _,Yd h hlen.out]
 have oth:∀k,k≠w.heap.size→W5.heap[k]? =w1.heap[k]? :=fun k hk=>by rw[←w5e,Below.heap_setCell _ _ _ _ hk,Below.heap_setCell _ _ _ _ hk,Below.heap_setCell _ _ _ _ hk]
 have n5:Nb w W5:=by rw[←w5e];exact((Below.setCell n4 (p:=⟨w.heap.size,33,none⟩) (Nat.le_refl _) _).setCell (p:=⟨w.heap.size,34,none⟩) (Nat.le_refl _) _).setCell (p:=⟨w.heap.size,35,none⟩) (Nat.le_refl _) _
 rw[w5e]
 clear w5e q33 q34 q35 f33 f34 f35 cP z c0 c1 c2 c3 c4 c5 c6 n4
 replace kI:=(oth _ (by omega)).trans kI
 replace kZ:=(oth _ (by omega)).trans kZ
 clear hM4 oth kH
 have hM4:=hM.nb n5
 have z4:=Below.size n5
 have n4:=n5
 have kH:=kH4
 clear n5 kH4
 obtain⟨z,c0,c1,c2,c3,c4,c5,c6⟩:=Z4 kI
 go_wp2_with fail
 refine(Xj i.1 (AdB i.1 i.2.2.2.2.1 a) (Za i.1) b p q bs qt qb hl _ hM4).mono ?_
 rintro e w5⟨rfl,hM5,g5⟩
 have kH5:=(g5.block _ (Zf kH) (by intro e;injection e with e;omega)).trans kH
 have kI5:=(g5.block _ (Zf kI) (by intro e;injection e with e;omega)).trans kI
 have kZ5:=(g5.block _ (Zf kZ) (by intro e;injection e with e;omega)).trans kZ
 have hmi:=Kv i.1 (AdB i.1 i.2.2.2.2.1 a) (Za i.1) b bs
 have gg:=Zx n4 g5
 clear z c0 c1 c2 c3 c4 c5 c6 kH kI kZ hM4 g5
 go_upto_region 16 with(fail)
 have gK:w.grownBy w5.drew (some q):=⟨gg.os,gg.tape,gg.output,gg.size,gg.block⟩
 have hM6:Mem 85 w5.drew p q (ZO i.1 (AdB i.1 i.2.2.2.2.1 a) (Za i.1) b bs).2.2:=hM5
 refine wp_region_held_drew (S:=fun w'=>w'.heap[w.heap.size]? =some (.cells (hC {h with held:=true,addr:=(AdB i.1 i.2.2.2.2.1 a),size:=Za i.1}).toArray 25 (0,0))∧w'.heap[w.heap.size+1]? =some (.cells #[.int .i64 i.1,.int .i64 i.2.1,.int .i64 i.2.2.1,.int .i64 i.2.2.2.1,.int .i64 i.2.2.2.2.1,.bool i.2.2.2.2.2.1,.bool i.2.2.2.2.2.2] 50 (0,0))) (by kernel_rfl) ⟨kH5,kI5⟩ (fun hHeld=> ?_)
 change wpAnyH _ _ _ _ _ 9 (List.toArray [false,false,false,false,false,false,false,false,false]) _ _
 refine Zc (i:=0) (v:= .agg (hC {h with held:=true,addr:=(AdB i.1 i.2.2.2.2.1 a),size:=Za i.1}).toArray) rfl (by kernel_rfl) (by kernel_rfl) (by kernel_rfl) (fun _ _ _ h=>h) (Zt (by rfl) 25 (.tmp 5) rfl ⟨w.heap.size,0,none⟩ rfl _ (fun w' hw=>Z09 _ _ _ _ _ hw.1 hlen2.out)) hHeld ?_
 simp only[Act.put,sI,sZ,sS]
 refine Zc (i:=1) (v:= .pointer (some ⟨w.heap.size+1,0,none⟩)) rfl (by kernel_rfl) (by kernel_rfl) (by kernel_rfl) (fun _ _ _ h=>h) (.inl ⟨by rfl,by intro w' hw;go_simp⟩) hHeld ?_
 simp only[Act.put,sI,sZ,sS]
 refine Zc (i:=2) (v:= .int .i64 i.1) rfl (by kernel_rfl) (by kernel_rfl) (by kernel_rfl) (fun _ _ _ h=>h) (.inl ⟨by rfl,by intro w' hw;have hc0:=(Z4 hw.2).2.1;clear hw;go_simp⟩) hHeld ?_
 simp only[Act.put,sI,sZ,sS]
 refine Zc (i:=3) (v:= .int .u64 (ZO i.1 (AdB i.1 i.2.2.2.2.1 a) (Za i.1) b bs).1) rfl (by kernel_rfl) (by kernel_rfl) (by kernel_rfl) (fun _ _ _ h=>h) (.inl ⟨by rfl,by intro w' hw;go_simp⟩) hHeld ?_
 simp only[Act.put,sI,sZ,sS]
 refine Zc (i:=5) (v:= .int .i64 (ZO i.1 (AdB i.1 i.2.2.2.2.1 a) (Za i.1) b bs).2.1) rfl (by kernel_rfl) (by kernel_rfl) (by kernel_rfl) (fun _ _ _ h=>h) (.inl ⟨by rfl,by intro w' hw;go_simp⟩) hHeld ?_
 simp only[Act.put,sI,sZ,sS]
 have kZ6:w5.drew.heap[w.heap.size+1+1]? =some (.cells Z8 25 (0,0)):=kZ5
 clear kH5 kI5 kZ5 hM5 gg
 generalize w5.drew=w6 at*
 refine wpAnyH_ready (rs:=[4]) (by kernel_rfl) (by simp) (ZQ rfl (by rfl) (fun K hK=> ?_) .nil)
 go_simp
 refine(ld_q _ _ (by assumption) _).mono ?_
 rintro e w7⟨rfl,rfl⟩
 refine hK.out _ _ hHeld (fun hHeld=> ?_)
 clear hK K
 simp only[Act.put,sI,sZ,sS]
 refine wpAnyH_ready (rs:=[6]) (by kernel_rfl) (by simp) (ZQ rfl (by rfl) (fun K hK=> ?_) .nil)
 refine wp_store_row 25 (.tmp 10) (.tmp 90) rfl (w.heap.size+1+1) (hC {h with held:=true,addr:=(AdB i.1 i.2.2.2.2.1 a),size:=Za i.1}).toArray rfl rfl 25 _ kZ6 (by rw[ZA,hlen2.out]) (by rw[hlen2.out];rfl) hone.out ?_
 refine hK.out _ _ (XG hHeld kZ6) (fun hHeld=> ?_)
 clear hK K
 simp only[Act.put,sI,sZ,sS]
 refine Zc (i:=7) (v:= .int .u64 (LdB i.1 (ZO i.1 (AdB i.1 i.2.2.2.2.1 a) (Za i.1) b bs).1)) rfl (by kernel_rfl) (by kernel_rfl) (by kernel_rfl) (fun _ _ _ h=>h) (.inl ⟨by rfl,by intro w' hw;go_simp⟩) hHeld ?_
 simp only[Act.put,sI,sZ,sS]
 refine Zc (i:=8) (v:= .int .i64 (ZO i.1 (AdB i.1 i.2.2.2.2.1 a) (Za i.1) b bs).2.1) rfl (by kernel_rfl) (by kernel_rfl) (by kernel_rfl) (fun _ _ _ h=>h) (.inl ⟨by rfl,by intro w' hw;go_simp⟩) hHeld ?_
 simp only[Act.put,sI,sZ,sS]
 refine wpAnyH_done (by kernel_rfl) ?_ _
 go_wp2_with fail
 exact YL gK hM6 kZ6 hlen2.out (by omega) _ _ _ rfl rfl rfl
theorem Z3A(h:HV)(i:In7)(a b:Int)(p q:Nat)(bs:By)(hh:HOk h)(qa:InU a)(qb:InU b)(qt:InU (AdB i.1 i.2.2.2.2.1 a))(hop:i.1=77)(hL:Zz i.1=true)(hl:bs.length≤16777216)(w:World)(hC0:Cod w)(hM:Mem 85 w p q bs):
  Calls prog 23 #[hA h,i7A i,.int .u64 a,.int .u64 b,.pointer (some ⟨p,0,none⟩)] w (ZY h i a b bs p q w):=by
 have e0:=Lib.hid (show ZC h i a b bs=({h with held:=true,addr:=(AdB i.1 i.2.2.2.2.1 a),size:=Za i.1},LdB i.1 (ZO i.1 (AdB i.1 i.2.2.2.2.1 a) (Za i.1) b bs).1,(ZO i.1 (AdB i.1 i.2.2.2.2.1 a) (Za i.1) b bs).2.1,(ZO i.1 (AdB i.1 i.2.2.2.2.1 a) (Za i.1) b bs).2.2) from by
  unfold ZC
  rw[if_neg (by rw[hL];simp),if_pos (by omega)])
 have h1:=Lib.hid (ZZ i.1)
 rw[hL] at h1
 have d77:(i.1==77)=true:=beq_iff_eq.2 hop
 have d66:(i.1==66)=false:=nB (by omega)
 have d67:(i.1==67)=false:=nB (by omega)
 have d78:(i.1==78)=false:=nB (by omega)
 clear hL hop
 have HA:=Lib.hid (YU i.1 i.2.1 i.2.2.1 i.2.2.2.1 i.2.2.2.2.1 a i.2.2.2.2.2.1 i.2.2.2.2.2.2)
 have HZ:=Lib.hid (Yo i.1)
 have hlen:=Lib.hid hh.len
 have hlen2:=Lib.hid (show(hC {h with held:=true,addr:=(AdB i.1 i.2.2.2.2.1 a),size:=Za i.1}).toArray.size=36 by rw[List.size_toArray];exact Zv (by exact hh.len))
 have hone:=Lib.hid (Zu (ZI {h with held:=true,addr:=(AdB i.1 i.2.2.2.2.1 a),size:=Za i.1}))
 have hMlt:=hM.lt
 clear hh
 unfold ZY
 rw[e0.out]
 dsimp only
 unfold hA i7A
 go_enter func23,ntmps23
 go_upto_region 1 with(fail)
 obtain⟨W1,w1e⟩:∃W1,((w.alloc (Obj.cells (hC h).toArray 25)).alloc (Obj.cells #[.int .i64 i.1,.int .i64 i.2.1,.int .i64 i.2.2.1,.int .i64 i.2.2.2.1,.int .i64 i.2.2.2.2.1,.bool i.2.2.2.2.2.1,.bool i.2.2.2.2.2.2] 50)).alloc (Obj.cells #[.int .u64 0,.int .u64 0,.int .u64 0,.int .u64 0,.int .u64 0,.int .u64 0,.int .u64 0,.int .u64 0,.int .u64 0,.int .u64 0,.int .u64 0,.int .u64 0,.int .u64 0,.int .u64 0,.int .u64 0,.int .u64 0,.int .u64 0,.int .u64 0,.int .u64 0,.int .u64 0,.int .u64 0,.int .u64 0,.int .u64 0,.int .u64 0,.int .u64 0,.int .u64 0,.int .u64 0,.int .u64 0,.int .u64 0,.int .u64 0,.int .u64 0,.int .u64 0,.int .u64 0,.bool false,.int .u64 0,.int .i64 0] 25)=W1:=⟨_,rfl⟩
 have n1:Nb w W1:=by rw[←w1e];exact(((Nb.refl _).alloc _).alloc _).alloc _
 have kH:W1.heap[w.heap.size]? =some (.cells (hC h).toArray 25 (0,0)):=by rw[←w1e];exact Zo (Zo (Zd _ _ rfl) _) _
 have kI:W1.heap[w.heap.size+1]? =some (.cells #[.int .i64 i.1,.int .i64 i.2.1,.int .i64 i.2.2.1,.int .i64 i.2.2.2.1,.int .i64 i.2.2.2.2.1,.bool i.2.2.2.2.2.1,.bool i.2.2.2.2.2.2] 50 (0,0)):=by rw[←w1e];exact Zo (Zd _ _ (by simp)) _
 have kZ:W1.heap[w.heap.size+1+1]? =some (.cells Z8 25 (0,0)):=by rw[←w1e];exact Zd _ _ (by simp)
 rw[w1e]
 clear w1e
 obtain⟨z,c0,c1,c2,c3,c4,c5,c6⟩:=Z4 kI
 go_wp2_with fail
 refine(h1.out _).mono ?_
 rintro e w'⟨rfl,rfl⟩
 go_upto_region 4 with(fail)
 go_region_held3 (fun w'=>Nb W1 w'∧w.heap.size+1<w'.heap.size∧w'.cell? ⟨w.heap.size+1,0,none⟩=some (.int .i64 i.1)∧w'.cell? ⟨w.heap.size+1,1,none⟩=some (.int .i64 i.2.1)∧w'.cell? ⟨w.heap.size+1,2,none⟩=some (.int .i64 i.2.2.1)∧w'.cell? ⟨w.heap.size+1,3,none⟩=some (.int .i64 i.2.2.2.1)∧w'.cell? ⟨w.heap.size+1,4,none⟩=some (.int .i64 i.2.2.2.2.1)∧w'.cell? ⟨w.heap.size+1,5,none⟩=some (.bool i.2.2.2.2.2.1)∧w'.cell? ⟨w.heap.size+1,6,none⟩=some (.bool i.2.2.2.2.2.2))
  (first|assumption|(exact XU (P:=True) (by assumption) (by assumption))|(exact⟨(Nb.refl _).trans ((Nb.refl _).drewN 1),z,c0,c1,c2,c3,c4,c5,c6⟩))
  (first
   |(go_at_call 51;refine(HA.out _).mono ?_;rintro e w1⟨rfl,hnA⟩)
   |(go_at_call 52;refine(HZ.out _).mono ?_;rintro e w1⟨rfl,rfl⟩))
 rename_i hH
 have n4:=n1.trans hH.1
 replace kH:=hH.1.block kH
 replace kI:=hH.1.block kI
 replace kZ:=hH.1.block kZ
 clear z c0 c1 c2 c3 c4 c5 c6 hH HA HZ
 have hM4:=hM.nb n4
 have z4:=Below.size n4
 obtain⟨z,c0,c1,c2,c3,c4,c5,c6⟩:=Z4 kI
 obtain⟨cP,q33,q34,q35⟩:=YE kH hlen.out
 have f33:=Z6 kH 33
 have f34:=Z6 kH 34
 have f35:=Z6 kH 35
 go_upto_region 15 with(fail)
 obtain⟨W5,w5e⟩:∃W5,((w1.setCell ⟨w.heap.size,33,none⟩ (.bool true)).setCell ⟨w.heap.size,34,none⟩ (.int .u64 (AdB i.1 i.2.2.2.2.1 a))).setCell ⟨w.heap.size,35,none⟩ (.int .i64 (Za i.1))=W5:=⟨_,rfl⟩
 have kH4:W5.heap[w.heap.size]? =some (.cells (hC {h with held:=true,addr:=(AdB i.1 i.2.2.2.2.1 a),size:=Za i.1}).toArray 25 (0,0)):=by rw[←w5e,Zg (Zg (Zg kH 33 _) 34 _) 35 _,Yd h hlen.out]
 have oth:∀k,k≠w.heap.size→W5.heap[k]? =w1.heap[k]? :=fun k hk=>by rw[←w5e,Below.heap_setCell _ _ _ _ hk,Below.heap_setCell _ _ _ _ hk,Below.heap_setCell _ _ _ _ hk]
 have n5:Nb w W5:=by rw[←w5e];exact((Below.setCell n4 (p:=⟨w.heap.size,33,none⟩) (Nat.le_refl _) _).setCell (p:=⟨w.heap.size,34,none⟩) (Nat.le_refl _) _).setCell (p:=⟨w.heap.size,35,none⟩) (Nat.le_refl _) _
 rw[w5e]
 clear w5e q33 q34 q35 f33 f34 f35 cP z c0 c1 c2 c3 c4 c5 c6 n4
 replace kI:=(oth _ (by omega)).trans kI
 replace kZ:=(oth _ (by omega)).trans kZ
 clear hM4 oth kH
 have hM4:=hM.nb n5
 have z4:=Below.size n5
 have n4:=n5
 have kH:=kH4
 clear n5 kH4
 obtain⟨z,c0,c1,c2,c3,c4,c5,c6⟩:=Z4 kI
 go_wp2_with fail
 refine(Xj i.1 (AdB i.1 i.2.2.2.2.1 a) (Za i.1) b p q bs qt qb hl _ hM4).mono ?_
 rintro e w5⟨rfl,hM5,g5⟩
 have kH5:=(g5.block _ (Zf kH) (by intro e;injection e with e;omega)).trans kH
 have kI5:=(g5.block _ (Zf kI) (by intro e;injection e with e;omega)).trans kI
 have kZ5:=(g5.block _ (Zf kZ) (by intro e;injection e with e;omega)).trans kZ
 have hmi:=Kv i.1 (AdB i.1 i.2.2.2.2.1 a) (Za i.1) b bs
 have gg:=Zx n4 g5
 clear z c0 c1 c2 c3 c4 c5 c6 kH kI kZ hM4 g5
 go_upto_region 16 with(fail)
 have gK:w.grownBy w5.drew (some q):=⟨gg.os,gg.tape,gg.output,gg.size,gg.block⟩
 have hM6:Mem 85 w5.drew p q (ZO i.1 (AdB i.1 i.2.2.2.2.1 a) (Za i.1) b bs).2.2:=hM5
 refine wp_region_held_drew (S:=fun w'=>w'.heap[w.heap.size]? =some (.cells (hC {h with held:=true,addr:=(AdB i.1 i.2.2.2.2.1 a),size:=Za i.1}).toArray 25 (0,0))∧w'.heap[w.heap.size+1]? =some (.cells #[.int .i64 i.1,.int .i64 i.2.1,.int .i64 i.2.2.1,.int .i64 i.2.2.2.1,.int .i64 i.2.2.2.2.1,.bool i.2.2.2.2.2.1,.bool i.2.2.2.2.2.2] 50 (0,0))) (by kernel_rfl) ⟨kH5,kI5⟩ (fun hHeld=> ?_)
 change wpAnyH _ _ _ _ _ 9 (List.toArray [false,false,false,false,false,false,false,false,false]) _ _
 refine Zc (i:=0) (v:= .agg (hC {h with held:=true,addr:=(AdB i.1 i.2.2.2.2.1 a),size:=Za i.1}).toArray) rfl (by kernel_rfl) (by kernel_rfl) (by kernel_rfl) (fun _ _ _ h=>h) (Zt (by rfl) 25 (.tmp 5) rfl ⟨w.heap.size,0,none⟩ rfl _ (fun w' hw=>Z09 _ _ _ _ _ hw.1 hlen2.out)) hHeld ?_
 simp only[Act.put,sI,sZ,sS]
 refine Zc (i:=1) (v:= .pointer (some ⟨w.heap.size+1,0,none⟩)) rfl (by kernel_rfl) (by kernel_rfl) (by kernel_rfl) (fun _ _ _ h=>h) (.inl ⟨by rfl,by intro w' hw;go_simp⟩) hHeld ?_
 simp only[Act.put,sI,sZ,sS]
 refine Zc (i:=2) (v:= .int .i64 i.1) rfl (by kernel_rfl) (by kernel_rfl) (by kernel_rfl) (fun _ _ _ h=>h) (.inl ⟨by rfl,by intro w' hw;have hc0:=(Z4 hw.2).2.1;clear hw;go_simp⟩) hHeld ?_
 simp only[Act.put,sI,sZ,sS]
 refine Zc (i:=3) (v:= .int .u64 (ZO i.1 (AdB i.1 i.2.2.2.2.1 a) (Za i.1) b bs).1) rfl (by kernel_rfl) (by kernel_rfl) (by kernel_rfl) (fun _ _ _ h=>h) (.inl ⟨by rfl,by intro w' hw;go_simp⟩) hHeld ?_
 simp only[Act.put,sI,sZ,sS]
 refine Zc (i:=5) (v:= .int .i64 (ZO i.1 (AdB i.1 i.2.2.2.2.1 a) (Za i.1) b bs).2.1) rfl (by kernel_rfl) (by kernel_rfl) (by kernel_rfl) (fun _ _ _ h=>h) (.inl ⟨by rfl,by intro w' hw;go_simp⟩) hHeld ?_
 simp only[Act.put,sI,sZ,sS]
 have kZ6:w5.drew.heap[w.heap.size+1+1]? =some (.cells Z8 25 (0,0)):=kZ5
 clear kH5 kI5 kZ5 hM5 gg
 generalize w5.drew=w6 at*
 refine wpAnyH_ready (rs:=[4]) (by kernel_rfl) (by simp) (ZQ rfl (by rfl) (fun K hK=> ?_) .nil)
 go_simp
 refine(ld_q _ _ (by assumption) _).mono ?_
 rintro e w7⟨rfl,rfl⟩
 refine hK.out _ _ hHeld (fun hHeld=> ?_)
 clear hK K
 simp only[Act.put,sI,sZ,sS]
 refine wpAnyH_ready (rs:=[6]) (by kernel_rfl) (by simp) (ZQ rfl (by rfl) (fun K hK=> ?_) .nil)
 refine wp_store_row 25 (.tmp 10) (.tmp 90) rfl (w.heap.size+1+1) (hC {h with held:=true,addr:=(AdB i.1 i.2.2.2.2.1 a),size:=Za i.1}).toArray rfl rfl 25 _ kZ6 (by rw[ZA,hlen2.out]) (by rw[hlen2.out];rfl) hone.out ?_
 refine hK.out _ _ (XG hHeld kZ6) (fun hHeld=> ?_)
 clear hK K
 simp only[Act.put,sI,sZ,sS]
 refine Zc (i:=7) (v:= .int .u64 (LdB i.1 (ZO i.1 (AdB i.1 i.2.2.2.2.1 a) (Za i.1) b bs).1)) rfl (by kernel_rfl) (by kernel_rfl) (by kernel_rfl) (fun _ _ _ h=>h) (.inl ⟨by rfl,by intro w' hw;go_simp⟩) hHeld ?_
 simp only[Act.put,sI,sZ,sS]
 refine Zc (i:=8) (v:= .int .i64 (ZO i.1 (AdB i.1 i.2.2.2.2.1 a) (Za i.1) b bs).2.1) rfl (by kernel_rfl) (by kernel_rfl) (by kernel_rfl) (fun _ _ _ h=>h) (.inl ⟨by rfl,by intro w' hw;go_simp⟩) hHeld ?_
 simp only[Act.put,sI,sZ,sS]
 refine wpAnyH_done (by kernel_rfl) ?_ _
 go_wp2_with fail
 exact YL gK hM6 kZ6 hlen2.out (by omega) _ _ _ rfl rfl rfl
theorem Z1F(h:HV)(i:In7)(a b:Int)(p q:Nat)(bs:By)(hh:HOk h)(qa:InU a)(qb:InU b)(qt:InU (AdB i.1 i.2.2.2.2.1 a))(hop:i.1=67)(hL:Zz i.1=false)(hS:Zq i.1=true)(h1s:h.held=true)(h2s:h.addr=(AdB i.1 i.2.2.2.2.1 a))(h3s:h.size=Za i.1)(hl:bs.length≤16777216)(w:World)(hC0:Cod w)(hM:Mem 85 w p q bs):
  Calls prog 23 #[hA h,i7A i,.int .u64 a,.int .u64 b,.pointer (some ⟨p,0,none⟩)] w (ZY h i a b bs p q w):=by
 have e0:=Lib.hid (show ZC h i a b bs=({h with held:=false,addr:=0,size:=0},LdB i.1 (ZO i.1 (AdB i.1 i.2.2.2.2.1 a) (Za i.1) b bs).1,(ZO i.1 (AdB i.1 i.2.2.2.2.1 a) (Za i.1) b bs).2.1,(ZO i.1 (AdB i.1 i.2.2.2.2.1 a) (Za i.1) b bs).2.2) from by
  unfold ZC
  rw[if_neg (by rw[hS];simp),if_neg (by omega),if_pos (by omega),if_pos ⟨h1s,h2s,h3s⟩])
 have h1:=Lib.hid (ZZ i.1)
 rw[hL] at h1
 have h2:=Lib.hid (Y4 i.1)
 rw[hS] at h2
 have d66:(i.1==66)=false:=nB (by omega)
 have d77:(i.1==77)=false:=nB (by omega)
 have d67:(i.1==67)=true:=beq_iff_eq.2 hop
 have g1:=Lib.hid h1s
 have g2:(h.addr==(AdB i.1 i.2.2.2.2.1 a))=true:=beq_iff_eq.2 h2s
 have g3:(h.size==Za i.1)=true:=beq_iff_eq.2 h3s
 clear hL hS hop h1s h2s h3s
 have HA:=Lib.hid (YU i.1 i.2.1 i.2.2.1 i.2.2.2.1 i.2.2.2.2.1 a i.2.2.2.2.2.1 i.2.2.2.2.2.2)
 have HZ:=Lib.hid (Yo i.1)
 have hlen:=Lib.hid hh.len
 have hlen2:=Lib.hid (show(hC {h with held:=false,addr:=0,size:=0}).toArray.size=36 by rw[List.size_toArray];exact Zv (by exact hh.len))
 have hone:=Lib.hid (Zu (ZI {h with held:=false,addr:=0,size:=0}))
 have hMlt:=hM.lt
 clear hh
 unfold ZY
 rw[e0.out]
 dsimp only
 unfold hA i7A
 go_enter func23,ntmps23
 go_upto_region 1 with(fail)
 obtain⟨W1,w1e⟩:∃W1,((w.alloc (Obj.cells (hC h).toArray 25)).alloc (Obj.cells #[.int .i64 i.1,.int .i64 i.2.1,.int .i64 i.2.2.1,.int .i64 i.2.2.2.1,.int .i64 i.2.2.2.2.1,.bool i.2.2.2.2.2.1,.bool i.2.2.2.2.2.2] 50)).alloc (Obj.cells #[.int .u64 0,.int .u64 0,.int .u64 0,.int .u64 0,.int .u64 0,.int .u64 0,.int .u64 0,.int .u64 0,.int .u64 0,.int .u64 0,.int .u64 0,.int .u64 0,.int .u64 0,.int .u64 0,.int .u64 0,.int .u64 0,.int .u64 0,.int .u64 0,.int .u64 0,.int .u64 0,.int .u64 0,.int .u64 0,.int .u64 0,.int .u64 0,.int .u64 0,.int .u64 0,.int .u64 0,.int .u64 0,.int .u64 0,.int .u64 0,.int .u64 0,.int .u64 0,.int .u64 0,.bool false,.int .u64 0,.int .i64 0] 25)=W1:=⟨_,rfl⟩
 have n1:Nb w W1:=by rw[←w1e];exact(((Nb.refl _).alloc _).alloc _).alloc _
 have kH:W1.heap[w.heap.size]? =some (.cells (hC h).toArray 25 (0,0)):=by rw[←w1e];exact Zo (Zo (Zd _ _ rfl) _) _
 have kI:W1.heap[w.heap.size+1]? =some (.cells #[.int .i64 i.1,.int .i64 i.2.1,.int .i64 i.2.2.1,.int .i64 i.2.2.2.1,.int .i64 i.2.2.2.2.1,.bool i.2.2.2.2.2.1,.bool i.2.2.2.2.2.2] 50 (0,0)):=by rw[←w1e];exact Zo (Zd _ _ (by simp)) _
 have kZ:W1.heap[w.heap.size+1+1]? =some (.cells Z8 25 (0,0)):=by rw[←w1e];exact Zd _ _ (by simp)
 rw[w1e]
 clear w1e
 obtain⟨z,c0,c1,c2,c3,c4,c5,c6⟩:=Z4 kI
 go_wp2_with fail
 refine(h1.out _).mono ?_
 rintro e w'⟨rfl,rfl⟩
 go_wp2_with fail
 refine(h2.out _).mono ?_
 rintro e w'⟨rfl,rfl⟩
 go_upto_region 4 with(fail)
 go_region_held3 (fun w'=>Nb W1 w'∧w.heap.size+1<w'.heap.size∧w'.cell? ⟨w.heap.size+1,0,none⟩=some (.int .i64 i.1)∧w'.cell? ⟨w.heap.size+1,1,none⟩=some (.int .i64 i.2.1)∧w'.cell? ⟨w.heap.size+1,2,none⟩=some (.int .i64 i.2.2.1)∧w'.cell? ⟨w.heap.size+1,3,none⟩=some (.int .i64 i.2.2.2.1)∧w'.cell? ⟨w.heap.size+1,4,none⟩=some (.int .i64 i.2.2.2.2.1)∧w'.cell? ⟨w.heap.size+1,5,none⟩=some (.bool i.2.2.2.2.2.1)∧w'.cell? ⟨w.heap.size+1,6,none⟩=some (.bool i.2.2.2.2.2.2))
  (first|assumption|(exact XU (P:=True) (by assumption) (by assumption))|(exact⟨(Nb.refl _).trans ((Nb.refl _).drewN 1),z,c0,c1,c2,c3,c4,c5,c6⟩))
  (first
   |(go_at_call 51;refine(HA.out _).mono ?_;rintro e w1⟨rfl,hnA⟩)
   |(go_at_call 52;refine(HZ.out _).mono ?_;rintro e w1⟨rfl,rfl⟩))
 rename_i hH
 have n4:=n1.trans hH.1
 replace kH:=hH.1.block kH
 replace kI:=hH.1.block kI
 replace kZ:=hH.1.block kZ
 clear z c0 c1 c2 c3 c4 c5 c6 hH HA HZ
 have hM4:=hM.nb n4
 have z4:=Below.size n4
 obtain⟨z,c0,c1,c2,c3,c4,c5,c6⟩:=Z4 kI
 obtain⟨cP,q33,q34,q35⟩:=YE kH hlen.out
 have f33:=Z6 kH 33
 have f34:=Z6 kH 34
 have f35:=Z6 kH 35
 rw[g1.out] at q33
 go_upto_region 13 with(fail)
 obtain⟨W5,w5e⟩:∃W5,((w1.setCell ⟨w.heap.size,33,none⟩ (.bool false)).setCell ⟨w.heap.size,34,none⟩ (.int .u64 0)).setCell ⟨w.heap.size,35,none⟩ (.int .i64 0)=W5:=⟨_,rfl⟩
 have kH4:W5.heap[w.heap.size]? =some (.cells (hC {h with held:=false,addr:=0,size:=0}).toArray 25 (0,0)):=by rw[←w5e,Zg (Zg (Zg kH 33 _) 34 _) 35 _,Yd h hlen.out]
 have oth:∀k,k≠w.heap.size→W5.heap[k]? =w1.heap[k]? :=fun k hk=>by rw[←w5e,Below.heap_setCell _ _ _ _ hk,Below.heap_setCell _ _ _ _ hk,Below.heap_setCell _ _ _ _ hk]
 have n5:Nb w W5:=by rw[←w5e];exact((Below.setCell n4 (p:=⟨w.heap.size,33,none⟩) (Nat.le_refl _) _).setCell (p:=⟨w.heap.size,34,none⟩) (Nat.le_refl _) _).setCell (p:=⟨w.heap.size,35,none⟩) (Nat.le_refl _) _
 rw[w5e]
 clear w5e q33 q34 q35 f33 f34 f35 cP z c0 c1 c2 c3 c4 c5 c6 n4
 replace kI:=(oth _ (by omega)).trans kI
 replace kZ:=(oth _ (by omega)).trans kZ
 clear hM4 oth kH
 have hM4:=hM.nb n5
 have z4:=Below.size n5
 have n4:=n5
 have kH:=kH4
 clear n5 kH4
 obtain⟨z,c0,c1,c2,c3,c4,c5,c6⟩:=Z4 kI
 go_wp2_with fail
 refine(Xj i.1 (AdB i.1 i.2.2.2.2.1 a) (Za i.1) b p q bs qt qb hl _ hM4).mono ?_
 rintro e w5⟨rfl,hM5,g5⟩
 have kH5:=(g5.block _ (Zf kH) (by intro e;injection e with e;omega)).trans kH
 have kI5:=(g5.block _ (Zf kI) (by intro e;injection e with e;omega)).trans kI
 have kZ5:=(g5.block _ (Zf kZ) (by intro e;injection e with e;omega)).trans kZ
 have hmi:=Kv i.1 (AdB i.1 i.2.2.2.2.1 a) (Za i.1) b bs
 have gg:=Zx n4 g5
 clear z c0 c1 c2 c3 c4 c5 c6 kH kI kZ hM4 g5
 go_upto_region 16 with(fail)
 have gK:w.grownBy w5.drew (some q):=⟨gg.os,gg.tape,gg.output,gg.size,gg.block⟩
 have hM6:Mem 85 w5.drew p q (ZO i.1 (AdB i.1 i.2.2.2.2.1 a) (Za i.1) b bs).2.2:=hM5
 refine wp_region_held_drew (S:=fun w'=>w'.heap[w.heap.size]? =some (.cells (hC {h with held:=false,addr:=0,size:=0}).toArray 25 (0,0))∧w'.heap[w.heap.size+1]? =some (.cells #[.int .i64 i.1,.int .i64 i.2.1,.int .i64 i.2.2.1,.int .i64 i.2.2.2.1,.int .i64 i.2.2.2.2.1,.bool i.2.2.2.2.2.1,.bool i.2.2.2.2.2.2] 50 (0,0))) (by kernel_rfl) ⟨kH5,kI5⟩ (fun hHeld=> ?_)
 change wpAnyH _ _ _ _ _ 9 (List.toArray [false,false,false,false,false,false,false,false,false]) _ _
 refine Zc (i:=0) (v:= .agg (hC {h with held:=false,addr:=0,size:=0}).toArray) rfl (by kernel_rfl) (by kernel_rfl) (by kernel_rfl) (fun _ _ _ h=>h) (Zt (by rfl) 25 (.tmp 5) rfl ⟨w.heap.size,0,none⟩ rfl _ (fun w' hw=>Z09 _ _ _ _ _ hw.1 hlen2.out)) hHeld ?_
 simp only[Act.put,sI,sZ,sS]
 refine Zc (i:=1) (v:= .pointer (some ⟨w.heap.size+1,0,none⟩)) rfl (by kernel_rfl) (by kernel_rfl) (by kernel_rfl) (fun _ _ _ h=>h) (.inl ⟨by rfl,by intro w' hw;go_simp⟩) hHeld ?_
 simp only[Act.put,sI,sZ,sS]
 refine Zc (i:=2) (v:= .int .i64 i.1) rfl (by kernel_rfl) (by kernel_rfl) (by kernel_rfl) (fun _ _ _ h=>h) (.inl ⟨by rfl,by intro w' hw;have hc0:=(Z4 hw.2).2.1;clear hw;go_simp⟩) hHeld ?_
 simp only[Act.put,sI,sZ,sS]
 refine Zc (i:=3) (v:= .int .u64 (ZO i.1 (AdB i.1 i.2.2.2.2.1 a) (Za i.1) b bs).1) rfl (by kernel_rfl) (by kernel_rfl) (by kernel_rfl) (fun _ _ _ h=>h) (.inl ⟨by rfl,by intro w' hw;go_simp⟩) hHeld ?_
 simp only[Act.put,sI,sZ,sS]
 refine Zc (i:=5) (v:= .int .i64 (ZO i.1 (AdB i.1 i.2.2.2.2.1 a) (Za i.1) b bs).2.1) rfl (by kernel_rfl) (by kernel_rfl) (by kernel_rfl) (fun _ _ _ h=>h) (.inl ⟨by rfl,by intro w' hw;go_simp⟩) hHeld ?_
 simp only[Act.put,sI,sZ,sS]
 have kZ6:w5.drew.heap[w.heap.size+1+1]? =some (.cells Z8 25 (0,0)):=kZ5
 clear kH5 kI5 kZ5 hM5 gg
 generalize w5.drew=w6 at*
 refine wpAnyH_ready (rs:=[4]) (by kernel_rfl) (by simp) (ZQ rfl (by rfl) (fun K hK=> ?_) .nil)
 go_simp
 refine(ld_q _ _ (by assumption) _).mono ?_
 rintro e w7⟨rfl,rfl⟩
 refine hK.out _ _ hHeld (fun hHeld=> ?_)
 clear hK K
 simp only[Act.put,sI,sZ,sS]
 refine wpAnyH_ready (rs:=[6]) (by kernel_rfl) (by simp) (ZQ rfl (by rfl) (fun K hK=> ?_) .nil)
 refine wp_store_row 25 (.tmp 10) (.tmp 90) rfl (w.heap.size+1+1) (hC {h with held:=false,addr:=0,size:=0}).toArray rfl rfl 25 _ kZ6 (by rw[ZA,hlen2.out]) (by rw[hlen2.out];rfl) hone.out ?_
 refine hK.out _ _ (XG hHeld kZ6) (fun hHeld=> ?_)
 clear hK K
 simp only[Act.put,sI,sZ,sS]
 refine Zc (i:=7) (v:= .int .u64 (LdB i.1 (ZO i.1 (AdB i.1 i.2.2.2.2.1 a) (Za i.1) b bs).1)) rfl (by kernel_rfl) (by kernel_rfl) (by kernel_rfl) (fun _ _ _ h=>h) (.inl ⟨by rfl,by intro w' hw;go_simp⟩) hHeld ?_
 simp only[Act.put,sI,sZ,sS]
 refine Zc (i:=8) (v:= .int .i64 (ZO i.1 (AdB i.1 i.2.2.2.2.1 a) (Za i.1) b bs).2.1) rfl (by kernel_rfl) (by kernel_rfl) (by kernel_rfl) (fun _ _ _ h=>h) (.inl ⟨by rfl,by intro w' hw;go_simp⟩) hHeld ?_
 simp only[Act.put,sI,sZ,sS]
 refine wpAnyH_done (by kernel_rfl) ?_ _
 go_wp2_with fail
 exact YL gK hM6 kZ6 hlen2.out (by omega) _ _ _ rfl rfl rfl
theorem Z1G(h:HV)(i:In7)(a b:Int)(p q:Nat)(bs:By)(hh:HOk h)(qa:InU a)(qb:InU b)(qt:InU (AdB i.1 i.2.2.2.2.1 a))(hop:i.1=67)(hL:Zz i.1=false)(hS:Zq i.1=true)(h1s:h.held=false)(hl:bs.length≤16777216)(w:World)(hC0:Cod w)(hM:Mem 85 w p q bs):
  Calls prog 23 #[hA h,i7A i,.int .u64 a,.int .u64 b,.pointer (some ⟨p,0,none⟩)] w (ZY h i a b bs p q w):=by
 have e0:=Lib.hid (show ZC h i a b bs=({h with held:=false,addr:=0,size:=0},1,0,bs) from by
  unfold ZC
  rw[if_neg (by rw[hS];simp),if_neg (by omega),if_pos (by omega),if_neg (fun hh=>by rw[h1s] at hh;exact absurd hh.1 (by simp))])
 have h1:=Lib.hid (ZZ i.1)
 rw[hL] at h1
 have h2:=Lib.hid (Y4 i.1)
 rw[hS] at h2
 have d66:(i.1==66)=false:=nB (by omega)
 have d77:(i.1==77)=false:=nB (by omega)
 have d67:(i.1==67)=true:=beq_iff_eq.2 hop
 have g1:=Lib.hid h1s
 clear hL hS hop h1s
 have HA:=Lib.hid (YU i.1 i.2.1 i.2.2.1 i.2.2.2.1 i.2.2.2.2.1 a i.2.2.2.2.2.1 i.2.2.2.2.2.2)
 have HZ:=Lib.hid (Yo i.1)
 have hlen:=Lib.hid hh.len
 have hlen2:=Lib.hid (show(hC {h with held:=false,addr:=0,size:=0}).toArray.size=36 by rw[List.size_toArray];exact Zv (by exact hh.len))
 have hone:=Lib.hid (Zu (ZI {h with held:=false,addr:=0,size:=0}))
 have hMlt:=hM.lt
 clear hh
 unfold ZY
 rw[e0.out]
 dsimp only
 unfold hA i7A
 go_enter func23,ntmps23
 go_upto_region 1 with(fail)
 obtain⟨W1,w1e⟩:∃W1,((w.alloc (Obj.cells (hC h).toArray 25)).alloc (Obj.cells #[.int .i64 i.1,.int .i64 i.2.1,.int .i64 i.2.2.1,.int .i64 i.2.2.2.1,.int .i64 i.2.2.2.2.1,.bool i.2.2.2.2.2.1,.bool i.2.2.2.2.2.2] 50)).alloc (Obj.cells #[.int .u64 0,.int .u64 0,.int .u64 0,.int .u64 0,.int .u64 0,.int .u64 0,.int .u64 0,.int .u64 0,.int .u64 0,.int .u64 0,.int .u64 0,.int .u64 0,.int .u64 0,.int .u64 0,.int .u64 0,.int .u64 0,.int .u64 0,.int .u64 0,.int .u64 0,.int .u64 0,.int .u64 0,.int .u64 0,.int .u64 0,.int .u64 0,.int .u64 0,.int .u64 0,.int .u64 0,.int .u64 0,.int .u64 0,.int .u64 0,.int .u64 0,.int .u64 0,.int .u64 0,.bool false,.int .u64 0,.int .i64 0] 25)=W1:=⟨_,rfl⟩
 have n1:Nb w W1:=by rw[←w1e];exact(((Nb.refl _).alloc _).alloc _).alloc _
 have kH:W1.heap[w.heap.size]? =some (.cells (hC h).toArray 25 (0,0)):=by rw[←w1e];exact Zo (Zo (Zd _ _ rfl) _) _
 have kI:W1.heap[w.heap.size+1]? =some (.cells #[.int .i64 i.1,.int .i64 i.2.1,.int .i64 i.2.2.1,.int .i64 i.2.2.2.1,.int .i64 i.2.2.2.2.1,.bool i.2.2.2.2.2.1,.bool i.2.2.2.2.2.2] 50 (0,0)):=by rw[←w1e];exact Zo (Zd _ _ (by simp)) _
 have kZ:W1.heap[w.heap.size+1+1]? =some (.cells Z8 25 (0,0)):=by rw[←w1e];exact Zd _ _ (by simp)
 rw[w1e]
 clear w1e
 obtain⟨z,c0,c1,c2,c3,c4,c5,c6⟩:=Z4 kI
 go_wp2_with fail
 refine(h1.out _).mono ?_
 rintro e w'⟨rfl,rfl⟩
 go_wp2_with fail
 refine(h2.out _).mono ?_
 rintro e w'⟨rfl,rfl⟩
 go_upto_region 4 with(fail)
 go_region_held3 (fun w'=>Nb W1 w'∧w.heap.size+1<w'.heap.size∧w'.cell? ⟨w.heap.size+1,0,none⟩=some (.int .i64 i.1)∧w'.cell? ⟨w.heap.size+1,1,none⟩=some (.int .i64 i.2.1)∧w'.cell? ⟨w.heap.size+1,2,none⟩=some (.int .i64 i.2.2.1)∧w'.cell? ⟨w.heap.size+1,3,none⟩=some (.int .i64 i.2.2.2.1)∧w'.cell? ⟨w.heap.size+1,4,none⟩=some (.int .i64 i.2.2.2.2.1)∧w'.cell? ⟨w.heap.size+1,5,none⟩=some (.bool i.2.2.2.2.2.1)∧w'.cell? ⟨w.heap.size+1,6,none⟩=some (.bool i.2.2.2.2.2.2))
  (first|assumption|(exact XU (P:=True) (by assumption) (by assumption))|(exact⟨(Nb.refl _).trans ((Nb.refl _).drewN 1),z,c0,c1,c2,c3,c4,c5,c6⟩))
  (first
   |(go_at_call 51;refine(HA.out _).mono ?_;rintro e w1⟨rfl,hnA⟩)
   |(go_at_call 52;refine(HZ.out _).mono ?_;rintro e w1⟨rfl,rfl⟩))
 rename_i hH
 have n4:=n1.trans hH.1
 replace kH:=hH.1.block kH
 replace kI:=hH.1.block kI
 replace kZ:=hH.1.block kZ
 clear z c0 c1 c2 c3 c4 c5 c6 hH HA HZ
 have hM4:=hM.nb n4
 have z4:=Below.size n4
 obtain⟨z,c0,c1,c2,c3,c4,c5,c6⟩:=Z4 kI
 obtain⟨cP,q33,q34,q35⟩:=YE kH hlen.out
 have f33:=Z6 kH 33
 have f34:=Z6 kH 34
 have f35:=Z6 kH 35
 rw[g1.out] at q33
 go_upto_region 13 with(fail)
 obtain⟨W5,w5e⟩:∃W5,((w1.setCell ⟨w.heap.size,33,none⟩ (.bool false)).setCell ⟨w.heap.size,34,none⟩ (.int .u64 0)).setCell ⟨w.heap.size,35,none⟩ (.int .i64 0)=W5:=⟨_,rfl⟩
 have kH4:W5.heap[w.heap.size]? =some (.cells (hC {h with held:=false,addr:=0,size:=0}).toArray 25 (0,0)):=by rw[←w5e,Zg (Zg (Zg kH 33 _) 34 _) 35 _,Yd h hlen.out]
 have oth:∀k,k≠w.heap.size→W5.heap[k]? =w1.heap[k]? :=fun k hk=>by rw[←w5e,Below.heap_setCell _ _ _ _ hk,Below.heap_setCell _ _ _ _ hk,Below.heap_setCell _ _ _ _ hk]
 have n5:Nb w W5:=by rw[←w5e];exact((Below.setCell n4 (p:=⟨w.heap.size,33,none⟩) (Nat.le_refl _) _).setCell (p:=⟨w.heap.size,34,none⟩) (Nat.le_refl _) _).setCell (p:=⟨w.heap.size,35,none⟩) (Nat.le_refl _) _
 rw[w5e]
 clear w5e q33 q34 q35 f33 f34 f35 cP z c0 c1 c2 c3 c4 c5 c6 n4
 replace kI:=(oth _ (by omega)).trans kI
 replace kZ:=(oth _ (by omega)).trans kZ
 clear hM4 oth kH
 have hM4:=hM.nb n5
 have z4:=Below.size n5
 have n4:=n5
 have kH:=kH4
 clear n5 kH4
 obtain⟨z,c0,c1,c2,c3,c4,c5,c6⟩:=Z4 kI
 go_wp2_with (first
  |refine wpList_load_row rfl 25 (.tmp 5) rfl w.heap.size rfl 25 (hC {h with held:=false,addr:=0,size:=0}).toArray (0,0) _ kH underlying25 rfl (by rw[ZA,hlen2.out]) ?_
  |refine wpList_store_row rfl 25 (.tmp 10) (.tmp 79) rfl (w.heap.size+1+1) (hC {h with held:=false,addr:=0,size:=0}).toArray rfl rfl 25 _ kZ (by rw[ZA,hlen2.out]) (by rw[hlen2.out];rfl) hone.out ?_)
 exact YL (n4.grown_none) hM4 kZ hlen2.out (by omega) _ _ _ rfl rfl rfl
theorem Z1H(h:HV)(i:In7)(a b:Int)(p q:Nat)(bs:By)(hh:HOk h)(qa:InU a)(qb:InU b)(qt:InU (AdB i.1 i.2.2.2.2.1 a))(hop:i.1=67)(hL:Zz i.1=false)(hS:Zq i.1=true)(h1s:h.held=true)(h2s:h.addr≠(AdB i.1 i.2.2.2.2.1 a))(hl:bs.length≤16777216)(w:World)(hC0:Cod w)(hM:Mem 85 w p q bs):
  Calls prog 23 #[hA h,i7A i,.int .u64 a,.int .u64 b,.pointer (some ⟨p,0,none⟩)] w (ZY h i a b bs p q w):=by
 have e0:=Lib.hid (show ZC h i a b bs=({h with held:=false,addr:=0,size:=0},1,0,bs) from by
  unfold ZC
  rw[if_neg (by rw[hS];simp),if_neg (by omega),if_pos (by omega),if_neg (fun hh=>h2s hh.2.1)])
 have h1:=Lib.hid (ZZ i.1)
 rw[hL] at h1
 have h2:=Lib.hid (Y4 i.1)
 rw[hS] at h2
 have d66:(i.1==66)=false:=nB (by omega)
 have d77:(i.1==77)=false:=nB (by omega)
 have d67:(i.1==67)=true:=beq_iff_eq.2 hop
 have g1:=Lib.hid h1s
 have g2:(h.addr==(AdB i.1 i.2.2.2.2.1 a))=false:=nB h2s
 clear hL hS hop h1s h2s
 have HA:=Lib.hid (YU i.1 i.2.1 i.2.2.1 i.2.2.2.1 i.2.2.2.2.1 a i.2.2.2.2.2.1 i.2.2.2.2.2.2)
 have HZ:=Lib.hid (Yo i.1)
 have hlen:=Lib.hid hh.len
 have hlen2:=Lib.hid (show(hC {h with held:=false,addr:=0,size:=0}).toArray.size=36 by rw[List.size_toArray];exact Zv (by exact hh.len))
 have hone:=Lib.hid (Zu (ZI {h with held:=false,addr:=0,size:=0}))
 have hMlt:=hM.lt
 clear hh
 unfold ZY
 rw[e0.out]
 dsimp only
 unfold hA i7A
 go_enter func23,ntmps23
 go_upto_region 1 with(fail)
 obtain⟨W1,w1e⟩:∃W1,((w.alloc (Obj.cells (hC h).toArray 25)).alloc (Obj.cells #[.int .i64 i.1,.int .i64 i.2.1,.int .i64 i.2.2.1,.int .i64 i.2.2.2.1,.int .i64 i.2.2.2.2.1,.bool i.2.2.2.2.2.1,.bool i.2.2.2.2.2.2] 50)).alloc (Obj.cells #[.int .u64 0,.int .u64 0,.int .u64 0,.int .u64 0,.int .u64 0,.int .u64 0,.int .u64 0,.int .u64 0,.int .u64 0,.int .u64 0,.int .u64 0,.int .u64 0,.int .u64 0,.int .u64 0,.int .u64 0,.int .u64 0,.int .u64 0,.int .u64 0,.int .u64 0,.int .u64 0,.int .u64 0,.int .u64 0,.int .u64 0,.int .u64 0,.int .u64 0,.int .u64 0,.int .u64 0,.int .u64 0,.int .u64 0,.int .u64 0,.int .u64 0,.int .u64 0,.int .u64 0,.bool false,.int .u64 0,.int .i64 0] 25)=W1:=⟨_,rfl⟩
 have n1:Nb w W1:=by rw[←w1e];exact(((Nb.refl _).alloc _).alloc _).alloc _
 have kH:W1.heap[w.heap.size]? =some (.cells (hC h).toArray 25 (0,0)):=by rw[←w1e];exact Zo (Zo (Zd _ _ rfl) _) _
 have kI:W1.heap[w.heap.size+1]? =some (.cells #[.int .i64 i.1,.int .i64 i.2.1,.int .i64 i.2.2.1,.int .i64 i.2.2.2.1,.int .i64 i.2.2.2.2.1,.bool i.2.2.2.2.2.1,.bool i.2.2.2.2.2.2] 50 (0,0)):=by rw[←w1e];exact Zo (Zd _ _ (by simp)) _
 have kZ:W1.heap[w.heap.size+1+1]? =some (.cells Z8 25 (0,0)):=by rw[←w1e];exact Zd _ _ (by simp)
 rw[w1e]
 clear w1e
 obtain⟨z,c0,c1,c2,c3,c4,c5,c6⟩:=Z4 kI
 go_wp2_with fail
 refine(h1.out _).mono ?_
 rintro e w'⟨rfl,rfl⟩
 go_wp2_with fail
 refine(h2.out _).mono ?_
 rintro e w'⟨rfl,rfl⟩
 go_upto_region 4 with(fail)
 go_region_held3 (fun w'=>Nb W1 w'∧w.heap.size+1<w'.heap.size∧w'.cell? ⟨w.heap.size+1,0,none⟩=some (.int .i64 i.1)∧w'.cell? ⟨w.heap.size+1,1,none⟩=some (.int .i64 i.2.1)∧w'.cell? ⟨w.heap.size+1,2,none⟩=some (.int .i64 i.2.2.1)∧w'.cell? ⟨w.heap.size+1,3,none⟩=some (.int .i64 i.2.2.2.1)∧w'.cell? ⟨w.heap.size+1,4,none⟩=some (.int .i64 i.2.2.2.2.1)∧w'.cell? ⟨w.heap.size+1,5,none⟩=some (.bool i.2.2.2.2.2.1)∧w'.cell? ⟨w.heap.size+1,6,none⟩=some (.bool i.2.2.2.2.2.2))
  (first|assumption|(exact XU (P:=True) (by assumption) (by assumption))|(exact⟨(Nb.refl _).trans ((Nb.refl _).drewN 1),z,c0,c1,c2,c3,c4,c5,c6⟩))
  (first
   |(go_at_call 51;refine(HA.out _).mono ?_;rintro e w1⟨rfl,hnA⟩)
   |(go_at_call 52;refine(HZ.out _).mono ?_;rintro e w1⟨rfl,rfl⟩))
 rename_i hH
 have n4:=n1.trans hH.1
 replace kH:=hH.1.block kH
 replace kI:=hH.1.block kI
 replace kZ:=hH.1.block kZ
 clear z c0 c1 c2 c3 c4 c5 c6 hH HA HZ
 have hM4:=hM.nb n4
 have z4:=Below.size n4
 obtain⟨z,c0,c1,c2,c3,c4,c5,c6⟩:=Z4 kI
 obtain⟨cP,q33,q34,q35⟩:=YE kH hlen.out
 have f33:=Z6 kH 33
 have f34:=Z6 kH 34
 have f35:=Z6 kH 35
 rw[g1.out] at q33
 go_upto_region 13 with(fail)
 obtain⟨W5,w5e⟩:∃W5,((w1.setCell ⟨w.heap.size,33,none⟩ (.bool false)).setCell ⟨w.heap.size,34,none⟩ (.int .u64 0)).setCell ⟨w.heap.size,35,none⟩ (.int .i64 0)=W5:=⟨_,rfl⟩
 have kH4:W5.heap[w.heap.size]? =some (.cells (hC {h with held:=false,addr:=0,size:=0}).toArray 25 (0,0)):=by rw[←w5e,Zg (Zg (Zg kH 33 _) 34 _) 35 _,Yd h hlen.out]
 have oth:∀k,k≠w.heap.size→W5.heap[k]? =w1.heap[k]? :=fun k hk=>by rw[←w5e,Below.heap_setCell _ _ _ _ hk,Below.heap_setCell _ _ _ _ hk,Below.heap_setCell _ _ _ _ hk]
 have n5:Nb w W5:=by rw[←w5e];exact((Below.setCell n4 (p:=⟨w.heap.size,33,none⟩) (Nat.le_refl _) _).setCell (p:=⟨w.heap.size,34,none⟩) (Nat.le_refl _) _).setCell (p:=⟨w.heap.size,35,none⟩) (Nat.le_refl _) _
 rw[w5e]
 clear w5e q33 q34 q35 f33 f34 f35 cP z c0 c1 c2 c3 c4 c5 c6 n4
 replace kI:=(oth _ (by omega)).trans kI
 replace kZ:=(oth _ (by omega)).trans kZ
 clear hM4 oth kH
 have hM4:=hM.nb n5
 have z4:=Below.size n5
 have n4:=n5
 have kH:=kH4
 clear n5 kH4
 obtain⟨z,c0,c1,c2,c3,c4,c5,c6⟩:=Z4 kI
 go_wp2_with (first
  |refine wpList_load_row rfl 25 (.tmp 5) rfl w.heap.size rfl 25 (hC {h with held:=false,addr:=0,size:=0}).toArray (0,0) _ kH underlying25 rfl (by rw[ZA,hlen2.out]) ?_
  |refine wpList_store_row rfl 25 (.tmp 10) (.tmp 79) rfl (w.heap.size+1+1) (hC {h with held:=false,addr:=0,size:=0}).toArray rfl rfl 25 _ kZ (by rw[ZA,hlen2.out]) (by rw[hlen2.out];rfl) hone.out ?_)
 exact YL (n4.grown_none) hM4 kZ hlen2.out (by omega) _ _ _ rfl rfl rfl
theorem Z1I(h:HV)(i:In7)(a b:Int)(p q:Nat)(bs:By)(hh:HOk h)(qa:InU a)(qb:InU b)(qt:InU (AdB i.1 i.2.2.2.2.1 a))(hop:i.1=67)(hL:Zz i.1=false)(hS:Zq i.1=true)(h1s:h.held=true)(h2s:h.addr=(AdB i.1 i.2.2.2.2.1 a))(h3s:h.size≠Za i.1)(hl:bs.length≤16777216)(w:World)(hC0:Cod w)(hM:Mem 85 w p q bs):
  Calls prog 23 #[hA h,i7A i,.int .u64 a,.int .u64 b,.pointer (some ⟨p,0,none⟩)] w (ZY h i a b bs p q w):=by
 have e0:=Lib.hid (show ZC h i a b bs=({h with held:=false,addr:=0,size:=0},1,0,bs) from by
  unfold ZC
  rw[if_neg (by rw[hS];simp),if_neg (by omega),if_pos (by omega),if_neg (fun hh=>h3s hh.2.2)])
 have h1:=Lib.hid (ZZ i.1)
 rw[hL] at h1
 have h2:=Lib.hid (Y4 i.1)
 rw[hS] at h2
 have d66:(i.1==66)=false:=nB (by omega)
 have d77:(i.1==77)=false:=nB (by omega)
 have d67:(i.1==67)=true:=beq_iff_eq.2 hop
 have g1:=Lib.hid h1s
 have g2:(h.addr==(AdB i.1 i.2.2.2.2.1 a))=true:=beq_iff_eq.2 h2s
 have g3:(h.size==Za i.1)=false:=nB h3s
 clear hL hS hop h1s h2s h3s
 have HA:=Lib.hid (YU i.1 i.2.1 i.2.2.1 i.2.2.2.1 i.2.2.2.2.1 a i.2.2.2.2.2.1 i.2.2.2.2.2.2)
 have HZ:=Lib.hid (Yo i.1)
 have hlen:=Lib.hid hh.len
 have hlen2:=Lib.hid (show(hC {h with held:=false,addr:=0,size:=0}).toArray.size=36 by rw[List.size_toArray];exact Zv (by exact hh.len))
 have hone:=Lib.hid (Zu (ZI {h with held:=false,addr:=0,size:=0}))
 have hMlt:=hM.lt
 clear hh
 unfold ZY
 rw[e0.out]
 dsimp only
 unfold hA i7A
 go_enter func23,ntmps23
 go_upto_region 1 with(fail)
 obtain⟨W1,w1e⟩:∃W1,((w.alloc (Obj.cells (hC h).toArray 25)).alloc (Obj.cells #[.int .i64 i.1,.int .i64 i.2.1,.int .i64 i.2.2.1,.int .i64 i.2.2.2.1,.int .i64 i.2.2.2.2.1,.bool i.2.2.2.2.2.1,.bool i.2.2.2.2.2.2] 50)).alloc (Obj.cells #[.int .u64 0,.int .u64 0,.int .u64 0,.int .u64 0,.int .u64 0,.int .u64 0,.int .u64 0,.int .u64 0,.int .u64 0,.int .u64 0,.int .u64 0,.int .u64 0,.int .u64 0,.int .u64 0,.int .u64 0,.int .u64 0,.int .u64 0,.int .u64 0,.int .u64 0,.int .u64 0,.int .u64 0,.int .u64 0,.int .u64 0,.int .u64 0,.int .u64 0,.int .u64 0,.int .u64 0,.int .u64 0,.int .u64 0,.int .u64 0,.int .u64 0,.int .u64 0,.int .u64 0,.bool false,.int .u64 0,.int .i64 0] 25)=W1:=⟨_,rfl⟩
 have n1:Nb w W1:=by rw[←w1e];exact(((Nb.refl _).alloc _).alloc _).alloc _
 have kH:W1.heap[w.heap.size]? =some (.cells (hC h).toArray 25 (0,0)):=by rw[←w1e];exact Zo (Zo (Zd _ _ rfl) _) _
 have kI:W1.heap[w.heap.size+1]? =some (.cells #[.int .i64 i.1,.int .i64 i.2.1,.int .i64 i.2.2.1,.int .i64 i.2.2.2.1,.int .i64 i.2.2.2.2.1,.bool i.2.2.2.2.2.1,.bool i.2.2.2.2.2.2] 50 (0,0)):=by rw[←w1e];exact Zo (Zd _ _ (by simp)) _
 have kZ:W1.heap[w.heap.size+1+1]? =some (.cells Z8 25 (0,0)):=by rw[←w1e];exact Zd _ _ (by simp)
 rw[w1e]
 clear w1e
 obtain⟨z,c0,c1,c2,c3,c4,c5,c6⟩:=Z4 kI
 go_wp2_with fail
 refine(h1.out _).mono ?_
 rintro e w'⟨rfl,rfl⟩
 go_wp2_with fail
 refine(h2.out _).mono ?_
 rintro e w'⟨rfl,rfl⟩
 go_upto_region 4 with(fail)
 go_region_held3 (fun w'=>Nb W1 w'∧w.heap.size+1<w'.heap.size∧w'.cell? ⟨w.heap.size+1,0,none⟩=some (.int .i64 i.1)∧w'.cell? ⟨w.heap.size+1,1,none⟩=some (.int .i64 i.2.1)∧w'.cell? ⟨w.heap.size+1,2,none⟩=some (.int .i64 i.2.2.1)∧w'.cell? ⟨w.heap.size+1,3,none⟩=some (.int .i64 i.2.2.2.1)∧w'.cell? ⟨w.heap.size+1,4,none⟩=some (.int .i64 i.2.2.2.2.1)∧w'.cell? ⟨w.heap.size+1,5,none⟩=some (.bool i.2.2.2.2.2.1)∧w'.cell? ⟨w.heap.size+1,6,none⟩=some (.bool i.2.2.2.2.2.2))
  (first|assumption|(exact XU (P:=True) (by assumption) (by assumption))|(exact⟨(Nb.refl _).trans ((Nb.refl _).drewN 1),z,c0,c1,c2,c3,c4,c5,c6⟩))
  (first
   |(go_at_call 51;refine(HA.out _).mono ?_;rintro e w1⟨rfl,hnA⟩)
   |(go_at_call 52;refine(HZ.out _).mono ?_;rintro e w1⟨rfl,rfl⟩))
 rename_i hH
 have n4:=n1.trans hH.1
 replace kH:=hH.1.block kH
 replace kI:=hH.1.block kI
 replace kZ:=hH.1.block kZ
 clear z c0 c1 c2 c3 c4 c5 c6 hH HA HZ
 have hM4:=hM.nb n4
 have z4:=Below.size n4
 obtain⟨z,c0,c1,c2,c3,c4,c5,c6⟩:=Z4 kI
 obtain⟨cP,q33,q34,q35⟩:=YE kH hlen.out
 have f33:=Z6 kH 33
 have f34:=Z6 kH 34
 have f35:=Z6 kH 35
 rw[g1.out] at q33
 go_upto_region 13 with(fail)
 obtain⟨W5,w5e⟩:∃W5,((w1.setCell ⟨w.heap.size,33,none⟩ (.bool false)).setCell ⟨w.heap.size,34,none⟩ (.int .u64 0)).setCell ⟨w.heap.size,35,none⟩ (.int .i64 0)=W5:=⟨_,rfl⟩
 have kH4:W5.heap[w.heap.size]? =some (.cells (hC {h with held:=false,addr:=0,size:=0}).toArray 25 (0,0)):=by rw[←w5e,Zg (Zg (Zg kH 33 _) 34 _) 35 _,Yd h hlen.out]
 have oth:∀k,k≠w.heap.size→W5.heap[k]? =w1.heap[k]? :=fun k hk=>by rw[←w5e,Below.heap_setCell _ _ _ _ hk,Below.heap_setCell _ _ _ _ hk,Below.heap_setCell _ _ _ _ hk]
 have n5:Nb w W5:=by rw[←w5e];exact((Below.setCell n4 (p:=⟨w.heap.size,33,none⟩) (Nat.le_refl _) _).setCell (p:=⟨w.heap.size,34,none⟩) (Nat.le_refl _) _).setCell (p:=⟨w.heap.size,35,none⟩) (Nat.le_refl _) _
 rw[w5e]
 clear w5e q33 q34 q35 f33 f34 f35 cP z c0 c1 c2 c3 c4 c5 c6 n4
 replace kI:=(oth _ (by omega)).trans kI
 replace kZ:=(oth _ (by omega)).trans kZ
 clear hM4 oth kH
 have hM4:=hM.nb n5
 have z4:=Below.size n5
 have n4:=n5
 have kH:=kH4
 clear n5 kH4
 obtain⟨z,c0,c1,c2,c3,c4,c5,c6⟩:=Z4 kI
 go_wp2_with (first
  |refine wpList_load_row rfl 25 (.tmp 5) rfl w.heap.size rfl 25 (hC {h with held:=false,addr:=0,size:=0}).toArray (0,0) _ kH underlying25 rfl (by rw[ZA,hlen2.out]) ?_
  |refine wpList_store_row rfl 25 (.tmp 10) (.tmp 79) rfl (w.heap.size+1+1) (hC {h with held:=false,addr:=0,size:=0}).toArray rfl rfl 25 _ kZ (by rw[ZA,hlen2.out]) (by rw[hlen2.out];rfl) hone.out ?_)
 exact YL (n4.grown_none) hM4 kZ hlen2.out (by omega) _ _ _ rfl rfl rfl
theorem Z1J(h:HV)(i:In7)(a b:Int)(p q:Nat)(bs:By)(hh:HOk h)(qa:InU a)(qb:InU b)(qt:InU (AdB i.1 i.2.2.2.2.1 a))(hop:i.1=78)(hL:Zz i.1=false)(hS:Zq i.1=true)(h1s:h.held=true)(h2s:h.addr=(AdB i.1 i.2.2.2.2.1 a))(h3s:h.size=Za i.1)(hl:bs.length≤16777216)(w:World)(hC0:Cod w)(hM:Mem 85 w p q bs):
  Calls prog 23 #[hA h,i7A i,.int .u64 a,.int .u64 b,.pointer (some ⟨p,0,none⟩)] w (ZY h i a b bs p q w):=by
 have e0:=Lib.hid (show ZC h i a b bs=({h with held:=false,addr:=0,size:=0},LdB i.1 (ZO i.1 (AdB i.1 i.2.2.2.2.1 a) (Za i.1) b bs).1,(ZO i.1 (AdB i.1 i.2.2.2.2.1 a) (Za i.1) b bs).2.1,(ZO i.1 (AdB i.1 i.2.2.2.2.1 a) (Za i.1) b bs).2.2) from by
  unfold ZC
  rw[if_neg (by rw[hS];simp),if_neg (by omega),if_pos (by omega),if_pos ⟨h1s,h2s,h3s⟩])
 have h1:=Lib.hid (ZZ i.1)
 rw[hL] at h1
 have h2:=Lib.hid (Y4 i.1)
 rw[hS] at h2
 have d66:(i.1==66)=false:=nB (by omega)
 have d77:(i.1==77)=false:=nB (by omega)
 have d67:(i.1==67)=false:=nB (by omega)
 have d78:(i.1==78)=true:=beq_iff_eq.2 hop
 have g1:=Lib.hid h1s
 have g2:(h.addr==(AdB i.1 i.2.2.2.2.1 a))=true:=beq_iff_eq.2 h2s
 have g3:(h.size==Za i.1)=true:=beq_iff_eq.2 h3s
 clear hL hS hop h1s h2s h3s
 have HA:=Lib.hid (YU i.1 i.2.1 i.2.2.1 i.2.2.2.1 i.2.2.2.2.1 a i.2.2.2.2.2.1 i.2.2.2.2.2.2)
 have HZ:=Lib.hid (Yo i.1)
 have hlen:=Lib.hid hh.len
 have hlen2:=Lib.hid (show(hC {h with held:=false,addr:=0,size:=0}).toArray.size=36 by rw[List.size_toArray];exact Zv (by exact hh.len))
 have hone:=Lib.hid (Zu (ZI {h with held:=false,addr:=0,size:=0}))
 have hMlt:=hM.lt
 clear hh
 unfold ZY
 rw[e0.out]
 dsimp only
 unfold hA i7A
 go_enter func23,ntmps23
 go_upto_region 1 with(fail)
 obtain⟨W1,w1e⟩:∃W1,((w.alloc (Obj.cells (hC h).toArray 25)).alloc (Obj.cells #[.int .i64 i.1,.int .i64 i.2.1,.int .i64 i.2.2.1,.int .i64 i.2.2.2.1,.int .i64 i.2.2.2.2.1,.bool i.2.2.2.2.2.1,.bool i.2.2.2.2.2.2] 50)).alloc (Obj.cells #[.int .u64 0,.int .u64 0,.int .u64 0,.int .u64 0,.int .u64 0,.int .u64 0,.int .u64 0,.int .u64 0,.int .u64 0,.int .u64 0,.int .u64 0,.int .u64 0,.int .u64 0,.int .u64 0,.int .u64 0,.int .u64 0,.int .u64 0,.int .u64 0,.int .u64 0,.int .u64 0,.int .u64 0,.int .u64 0,.int .u64 0,.int .u64 0,.int .u64 0,.int .u64 0,.int .u64 0,.int .u64 0,.int .u64 0,.int .u64 0,.int .u64 0,.int .u64 0,.int .u64 0,.bool false,.int .u64 0,.int .i64 0] 25)=W1:=⟨_,rfl⟩
 have n1:Nb w W1:=by rw[←w1e];exact(((Nb.refl _).alloc _).alloc _).alloc _
 have kH:W1.heap[w.heap.size]? =some (.cells (hC h).toArray 25 (0,0)):=by rw[←w1e];exact Zo (Zo (Zd _ _ rfl) _) _
 have kI:W1.heap[w.heap.size+1]? =some (.cells #[.int .i64 i.1,.int .i64 i.2.1,.int .i64 i.2.2.1,.int .i64 i.2.2.2.1,.int .i64 i.2.2.2.2.1,.bool i.2.2.2.2.2.1,.bool i.2.2.2.2.2.2] 50 (0,0)):=by rw[←w1e];exact Zo (Zd _ _ (by simp)) _
 have kZ:W1.heap[w.heap.size+1+1]? =some (.cells Z8 25 (0,0)):=by rw[←w1e];exact Zd _ _ (by simp)
 rw[w1e]
 clear w1e
 obtain⟨z,c0,c1,c2,c3,c4,c5,c6⟩:=Z4 kI
 go_wp2_with fail
 refine(h1.out _).mono ?_
 rintro e w'⟨rfl,rfl⟩
 go_wp2_with fail
 refine(h2.out _).mono ?_
 rintro e w'⟨rfl,rfl⟩
 go_upto_region 4 with(fail)
 go_region_held3 (fun w'=>Nb W1 w'∧w.heap.size+1<w'.heap.size∧w'.cell? ⟨w.heap.size+1,0,none⟩=some (.int .i64 i.1)∧w'.cell? ⟨w.heap.size+1,1,none⟩=some (.int .i64 i.2.1)∧w'.cell? ⟨w.heap.size+1,2,none⟩=some (.int .i64 i.2.2.1)∧w'.cell? ⟨w.heap.size+1,3,none⟩=some (.int .i64 i.2.2.2.1)∧w'.cell? ⟨w.heap.size+1,4,none⟩=some (.int .i64 i.2.2.2.2.1)∧w'.cell? ⟨w.heap.size+1,5,none⟩=some (.bool i.2.2.2.2.2.1)∧w'.cell? ⟨w.heap.size+1,6,none⟩=some (.bool i.2.2.2.2.2.2))
  (first|assumption|(exact XU (P:=True) (by assumption) (by assumption))|(exact⟨(Nb.refl _).trans ((Nb.refl _).drewN 1),z,c0,c1,c2,c3,c4,c5,c6⟩))
  (first
   |(go_at_call 51;refine(HA.out _).mono ?_;rintro e w1⟨rfl,hnA⟩)
   |(go_at_call 52;refine(HZ.out _).mono ?_;rintro e w1⟨rfl,rfl⟩))
 rename_i hH
 have n4:=n1.trans hH.1
 replace kH:=hH.1.block kH
 replace kI:=hH.1.block kI
 replace kZ:=hH.1.block kZ
 clear z c0 c1 c2 c3 c4 c5 c6 hH HA HZ
 have hM4:=hM.nb n4
 have z4:=Below.size n4
 obtain⟨z,c0,c1,c2,c3,c4,c5,c6⟩:=Z4 kI
 obtain⟨cP,q33,q34,q35⟩:=YE kH hlen.out
 have f33:=Z6 kH 33
 have f34:=Z6 kH 34
 have f35:=Z6 kH 35
 rw[g1.out] at q33
 go_upto_region 13 with(fail)
 obtain⟨W5,w5e⟩:∃W5,((w1.setCell ⟨w.heap.size,33,none⟩ (.bool false)).setCell ⟨w.heap.size,34,none⟩ (.int .u64 0)).setCell ⟨w.heap.size,35,none⟩ (.int .i64 0)=W5:=⟨_,rfl⟩
 have kH4:W5.heap[w.heap.size]? =some (.cells (hC {h with held:=false,addr:=0,size:=0}).toArray 25 (0,0)):=by rw[←w5e,Zg (Zg (Zg kH 33 _) 34 _) 35 _,Yd h hlen.out]
 have oth:∀k,k≠w.heap.size→W5.heap[k]? =w1.heap[k]? :=fun k hk=>by rw[←w5e,Below.heap_setCell _ _ _ _ hk,Below.heap_setCell _ _ _ _ hk,Below.heap_setCell _ _ _ _ hk]
 have n5:Nb w W5:=by rw[←w5e];exact((Below.setCell n4 (p:=⟨w.heap.size,33,none⟩) (Nat.le_refl _) _).setCell (p:=⟨w.heap.size,34,none⟩) (Nat.le_refl _) _).setCell (p:=⟨w.heap.size,35,none⟩) (Nat.le_refl _) _
 rw[w5e]
 clear w5e q33 q34 q35 f33 f34 f35 cP z c0 c1 c2 c3 c4 c5 c6 n4
 replace kI:=(oth _ (by omega)).trans kI
 replace kZ:=(oth _ (by omega)).trans kZ
 clear hM4 oth kH
 have hM4:=hM.nb n5
 have z4:=Below.size n5
 have n4:=n5
 have kH:=kH4
 clear n5 kH4
 obtain⟨z,c0,c1,c2,c3,c4,c5,c6⟩:=Z4 kI
 go_wp2_with fail
 refine(Xj i.1 (AdB i.1 i.2.2.2.2.1 a) (Za i.1) b p q bs qt qb hl _ hM4).mono ?_
 rintro e w5⟨rfl,hM5,g5⟩
 have kH5:=(g5.block _ (Zf kH) (by intro e;injection e with e;omega)).trans kH
 have kI5:=(g5.block _ (Zf kI) (by intro e;injection e with e;omega)).trans kI
 have kZ5:=(g5.block _ (Zf kZ) (by intro e;injection e with e;omega)).trans kZ
 have hmi:=Kv i.1 (AdB i.1 i.2.2.2.2.1 a) (Za i.1) b bs
 have gg:=Zx n4 g5
 clear z c0 c1 c2 c3 c4 c5 c6 kH kI kZ hM4 g5
 go_upto_region 16 with(fail)
 have gK:w.grownBy w5.drew (some q):=⟨gg.os,gg.tape,gg.output,gg.size,gg.block⟩
 have hM6:Mem 85 w5.drew p q (ZO i.1 (AdB i.1 i.2.2.2.2.1 a) (Za i.1) b bs).2.2:=hM5
 refine wp_region_held_drew (S:=fun w'=>w'.heap[w.heap.size]? =some (.cells (hC {h with held:=false,addr:=0,size:=0}).toArray 25 (0,0))∧w'.heap[w.heap.size+1]? =some (.cells #[.int .i64 i.1,.int .i64 i.2.1,.int .i64 i.2.2.1,.int .i64 i.2.2.2.1,.int .i64 i.2.2.2.2.1,.bool i.2.2.2.2.2.1,.bool i.2.2.2.2.2.2] 50 (0,0))) (by kernel_rfl) ⟨kH5,kI5⟩ (fun hHeld=> ?_)
 change wpAnyH _ _ _ _ _ 9 (List.toArray [false,false,false,false,false,false,false,false,false]) _ _
 refine Zc (i:=0) (v:= .agg (hC {h with held:=false,addr:=0,size:=0}).toArray) rfl (by kernel_rfl) (by kernel_rfl) (by kernel_rfl) (fun _ _ _ h=>h) (Zt (by rfl) 25 (.tmp 5) rfl ⟨w.heap.size,0,none⟩ rfl _ (fun w' hw=>Z09 _ _ _ _ _ hw.1 hlen2.out)) hHeld ?_
 simp only[Act.put,sI,sZ,sS]
 refine Zc (i:=1) (v:= .pointer (some ⟨w.heap.size+1,0,none⟩)) rfl (by kernel_rfl) (by kernel_rfl) (by kernel_rfl) (fun _ _ _ h=>h) (.inl ⟨by rfl,by intro w' hw;go_simp⟩) hHeld ?_
 simp only[Act.put,sI,sZ,sS]
 refine Zc (i:=2) (v:= .int .i64 i.1) rfl (by kernel_rfl) (by kernel_rfl) (by kernel_rfl) (fun _ _ _ h=>h) (.inl ⟨by rfl,by intro w' hw;have hc0:=(Z4 hw.2).2.1;clear hw;go_simp⟩) hHeld ?_
 simp only[Act.put,sI,sZ,sS]
 refine Zc (i:=3) (v:= .int .u64 (ZO i.1 (AdB i.1 i.2.2.2.2.1 a) (Za i.1) b bs).1) rfl (by kernel_rfl) (by kernel_rfl) (by kernel_rfl) (fun _ _ _ h=>h) (.inl ⟨by rfl,by intro w' hw;go_simp⟩) hHeld ?_
 simp only[Act.put,sI,sZ,sS]
 refine Zc (i:=5) (v:= .int .i64 (ZO i.1 (AdB i.1 i.2.2.2.2.1 a) (Za i.1) b bs).2.1) rfl (by kernel_rfl) (by kernel_rfl) (by kernel_rfl) (fun _ _ _ h=>h) (.inl ⟨by rfl,by intro w' hw;go_simp⟩) hHeld ?_
 simp only[Act.put,sI,sZ,sS]
 have kZ6:w5.drew.heap[w.heap.size+1+1]? =some (.cells Z8 25 (0,0)):=kZ5
 clear kH5 kI5 kZ5 hM5 gg
 generalize w5.drew=w6 at*
 refine wpAnyH_ready (rs:=[4]) (by kernel_rfl) (by simp) (ZQ rfl (by rfl) (fun K hK=> ?_) .nil)
 go_simp
 refine(ld_q _ _ (by assumption) _).mono ?_
 rintro e w7⟨rfl,rfl⟩
 refine hK.out _ _ hHeld (fun hHeld=> ?_)
 clear hK K
 simp only[Act.put,sI,sZ,sS]
 refine wpAnyH_ready (rs:=[6]) (by kernel_rfl) (by simp) (ZQ rfl (by rfl) (fun K hK=> ?_) .nil)
 refine wp_store_row 25 (.tmp 10) (.tmp 90) rfl (w.heap.size+1+1) (hC {h with held:=false,addr:=0,size:=0}).toArray rfl rfl 25 _ kZ6 (by rw[ZA,hlen2.out]) (by rw[hlen2.out];rfl) hone.out ?_
 refine hK.out _ _ (XG hHeld kZ6) (fun hHeld=> ?_)
 clear hK K
 simp only[Act.put,sI,sZ,sS]
 refine Zc (i:=7) (v:= .int .u64 (LdB i.1 (ZO i.1 (AdB i.1 i.2.2.2.2.1 a) (Za i.1) b bs).1)) rfl (by kernel_rfl) (by kernel_rfl) (by kernel_rfl) (fun _ _ _ h=>h) (.inl ⟨by rfl,by intro w' hw;go_simp⟩) hHeld ?_
 simp only[Act.put,sI,sZ,sS]
 refine Zc (i:=8) (v:= .int .i64 (ZO i.1 (AdB i.1 i.2.2.2.2.1 a) (Za i.1) b bs).2.1) rfl (by kernel_rfl) (by kernel_rfl) (by kernel_rfl) (fun _ _ _ h=>h) (.inl ⟨by rfl,by intro w' hw;go_simp⟩) hHeld ?_
 simp only[Act.put,sI,sZ,sS]
 refine wpAnyH_done (by kernel_rfl) ?_ _
 go_wp2_with fail
 exact YL gK hM6 kZ6 hlen2.out (by omega) _ _ _ rfl rfl rfl
theorem Z1K(h:HV)(i:In7)(a b:Int)(p q:Nat)(bs:By)(hh:HOk h)(qa:InU a)(qb:InU b)(qt:InU (AdB i.1 i.2.2.2.2.1 a))(hop:i.1=78)(hL:Zz i.1=false)(hS:Zq i.1=true)(h1s:h.held=false)(hl:bs.length≤16777216)(w:World)(hC0:Cod w)(hM:Mem 85 w p q bs):
  Calls prog 23 #[hA h,i7A i,.int .u64 a,.int .u64 b,.pointer (some ⟨p,0,none⟩)] w (ZY h i a b bs p q w):=by
 have e0:=Lib.hid (show ZC h i a b bs=({h with held:=false,addr:=0,size:=0},1,0,bs) from by
  unfold ZC
  rw[if_neg (by rw[hS];simp),if_neg (by omega),if_pos (by omega),if_neg (fun hh=>by rw[h1s] at hh;exact absurd hh.1 (by simp))])
 have h1:=Lib.hid (ZZ i.1)
 rw[hL] at h1
 have h2:=Lib.hid (Y4 i.1)
 rw[hS] at h2
 have d66:(i.1==66)=false:=nB (by omega)
 have d77:(i.1==77)=false:=nB (by omega)
 have d67:(i.1==67)=false:=nB (by omega)
 have d78:(i.1==78)=true:=beq_iff_eq.2 hop
 have g1:=Lib.hid h1s
 clear hL hS hop h1s
 have HA:=Lib.hid (YU i.1 i.2.1 i.2.2.1 i.2.2.2.1 i.2.2.2.2.1 a i.2.2.2.2.2.1 i.2.2.2.2.2.2)
 have HZ:=Lib.hid (Yo i.1)
 have hlen:=Lib.hid hh.len
 have hlen2:=Lib.hid (show(hC {h with held:=false,addr:=0,size:=0}).toArray.size=36 by rw[List.size_toArray];exact Zv (by exact hh.len))
 have hone:=Lib.hid (Zu (ZI {h with held:=false,addr:=0,size:=0}))
 have hMlt:=hM.lt
 clear hh
 unfold ZY
 rw[e0.out]
 dsimp only
 unfold hA i7A
 go_enter func23,ntmps23
 go_upto_region 1 with(fail)
 obtain⟨W1,w1e⟩:∃W1,((w.alloc (Obj.cells (hC h).toArray 25)).alloc (Obj.cells #[.int .i64 i.1,.int .i64 i.2.1,.int .i64 i.2.2.1,.int .i64 i.2.2.2.1,.int .i64 i.2.2.2.2.1,.bool i.2.2.2.2.2.1,.bool i.2.2.2.2.2.2] 50)).alloc (Obj.cells #[.int .u64 0,.int .u64 0,.int .u64 0,.int .u64 0,.int .u64 0,.int .u64 0,.int .u64 0,.int .u64 0,.int .u64 0,.int .u64 0,.int .u64 0,.int .u64 0,.int .u64 0,.int .u64 0,.int .u64 0,.int .u64 0,.int .u64 0,.int .u64 0,.int .u64 0,.int .u64 0,.int .u64 0,.int .u64 0,.int .u64 0,.int .u64 0,.int .u64 0,.int .u64 0,.int .u64 0,.int .u64 0,.int .u64 0,.int .u64 0,.int .u64 0,.int .u64 0,.int .u64 0,.bool false,.int .u64 0,.int .i64 0] 25)=W1:=⟨_,rfl⟩
 have n1:Nb w W1:=by rw[←w1e];exact(((Nb.refl _).alloc _).alloc _).alloc _
 have kH:W1.heap[w.heap.size]? =some (.cells (hC h).toArray 25 (0,0)):=by rw[←w1e];exact Zo (Zo (Zd _ _ rfl) _) _
 have kI:W1.heap[w.heap.size+1]? =some (.cells #[.int .i64 i.1,.int .i64 i.2.1,.int .i64 i.2.2.1,.int .i64 i.2.2.2.1,.int .i64 i.2.2.2.2.1,.bool i.2.2.2.2.2.1,.bool i.2.2.2.2.2.2] 50 (0,0)):=by rw[←w1e];exact Zo (Zd _ _ (by simp)) _
 have kZ:W1.heap[w.heap.size+1+1]? =some (.cells Z8 25 (0,0)):=by rw[←w1e];exact Zd _ _ (by simp)
 rw[w1e]
 clear w1e
 obtain⟨z,c0,c1,c2,c3,c4,c5,c6⟩:=Z4 kI
 go_wp2_with fail
 refine(h1.out _).mono ?_
 rintro e w'⟨rfl,rfl⟩
 go_wp2_with fail
 refine(h2.out _).mono ?_
 rintro e w'⟨rfl,rfl⟩
 go_upto_region 4 with(fail)
 go_region_held3 (fun w'=>Nb W1 w'∧w.heap.size+1<w'.heap.size∧w'.cell? ⟨w.heap.size+1,0,none⟩=some (.int .i64 i.1)∧w'.cell? ⟨w.heap.size+1,1,none⟩=some (.int .i64 i.2.1)∧w'.cell? ⟨w.heap.size+1,2,none⟩=some (.int .i64 i.2.2.1)∧w'.cell? ⟨w.heap.size+1,3,none⟩=some (.int .i64 i.2.2.2.1)∧w'.cell? ⟨w.heap.size+1,4,none⟩=some (.int .i64 i.2.2.2.2.1)∧w'.cell? ⟨w.heap.size+1,5,none⟩=some (.bool i.2.2.2.2.2.1)∧w'.cell? ⟨w.heap.size+1,6,none⟩=some (.bool i.2.2.2.2.2.2))
  (first|assumption|(exact XU (P:=True) (by assumption) (by assumption))|(exact⟨(Nb.refl _).trans ((Nb.refl _).drewN 1),z,c0,c1,c2,c3,c4,c5,c6⟩))
  (first
   |(go_at_call 51;refine(HA.out _).mono ?_;rintro e w1⟨rfl,hnA⟩)
   |(go_at_call 52;refine(HZ.out _).mono ?_;rintro e w1⟨rfl,rfl⟩))
 rename_i hH
 have n4:=n1.trans hH.1
 replace kH:=hH.1.block kH
 replace kI:=hH.1.block kI
 replace kZ:=hH.1.block kZ
 clear z c0 c1 c2 c3 c4 c5 c6 hH HA HZ
 have hM4:=hM.nb n4
 have z4:=Below.size n4
 obtain⟨z,c0,c1,c2,c3,c4,c5,c6⟩:=Z4 kI
 obtain⟨cP,q33,q34,q35⟩:=YE kH hlen.out
 have f33:=Z6 kH 33
 have f34:=Z6 kH 34
 have f35:=Z6 kH 35
 rw[g1.out] at q33
 go_upto_region 13 with(fail)
 obtain⟨W5,w5e⟩:∃W5,((w1.setCell ⟨w.heap.size,33,none⟩ (.bool false)).setCell ⟨w.heap.size,34,none⟩ (.int .u64 0)).setCell ⟨w.heap.size,35,none⟩ (.int .i64 0)=W5:=⟨_,rfl⟩
 have kH4:W5.heap[w.heap.size]? =some (.cells (hC {h with held:=false,addr:=0,size:=0}).toArray 25 (0,0)):=by rw[←w5e,Zg (Zg (Zg kH 33 _) 34 _) 35 _,Yd h hlen.out]
 have oth:∀k,k≠w.heap.size→W5.heap[k]? =w1.heap[k]? :=fun k hk=>by rw[←w5e,Below.heap_setCell _ _ _ _ hk,Below.heap_setCell _ _ _ _ hk,Below.heap_setCell _ _ _ _ hk]
 have n5:Nb w W5:=by rw[←w5e];exact((Below.setCell n4 (p:=⟨w.heap.size,33,none⟩) (Nat.le_refl _) _).setCell (p:=⟨w.heap.size,34,none⟩) (Nat.le_refl _) _).setCell (p:=⟨w.heap.size,35,none⟩) (Nat.le_refl _) _
 rw[w5e]
 clear w5e q33 q34 q35 f33 f34 f35 cP z c0 c1 c2 c3 c4 c5 c6 n4
 replace kI:=(oth _ (by omega)).trans kI
 replace kZ:=(oth _ (by omega)).trans kZ
 clear hM4 oth kH
 have hM4:=hM.nb n5
 have z4:=Below.size n5
 have n4:=n5
 have kH:=kH4
 clear n5 kH4
 obtain⟨z,c0,c1,c2,c3,c4,c5,c6⟩:=Z4 kI
 go_wp2_with (first
  |refine wpList_load_row rfl 25 (.tmp 5) rfl w.heap.size rfl 25 (hC {h with held:=false,addr:=0,size:=0}).toArray (0,0) _ kH underlying25 rfl (by rw[ZA,hlen2.out]) ?_
  |refine wpList_store_row rfl 25 (.tmp 10) (.tmp 79) rfl (w.heap.size+1+1) (hC {h with held:=false,addr:=0,size:=0}).toArray rfl rfl 25 _ kZ (by rw[ZA,hlen2.out]) (by rw[hlen2.out];rfl) hone.out ?_)
 exact YL (n4.grown_none) hM4 kZ hlen2.out (by omega) _ _ _ rfl rfl rfl
theorem Z1L(h:HV)(i:In7)(a b:Int)(p q:Nat)(bs:By)(hh:HOk h)(qa:InU a)(qb:InU b)(qt:InU (AdB i.1 i.2.2.2.2.1 a))(hop:i.1=78)(hL:Zz i.1=false)(hS:Zq i.1=true)(h1s:h.held=true)(h2s:h.addr≠(AdB i.1 i.2.2.2.2.1 a))(hl:bs.length≤16777216)(w:World)(hC0:Cod w)(hM:Mem 85 w p q bs):
  Calls prog 23 #[hA h,i7A i,.int .u64 a,.int .u64 b,.pointer (some ⟨p,0,none⟩)] w (ZY h i a b bs p q w):=by
 have e0:=Lib.hid (show ZC h i a b bs=({h with held:=false,addr:=0,size:=0},1,0,bs) from by
  unfold ZC
  rw[if_neg (by rw[hS];simp),if_neg (by omega),if_pos (by omega),if_neg (fun hh=>h2s hh.2.1)])
 have h1:=Lib.hid (ZZ i.1)
 rw[hL] at h1
 have h2:=Lib.hid (Y4 i.1)
 rw[hS] at h2
 have d66:(i.1==66)=false:=nB (by omega)
 have d77:(i.1==77)=false:=nB (by omega)
 have d67:(i.1==67)=false:=nB (by omega)
 have d78:(i.1==78)=true:=beq_iff_eq.2 hop
 have g1:=Lib.hid h1s
 have g2:(h.addr==(AdB i.1 i.2.2.2.2.1 a))=false:=nB h2s
 clear hL hS hop h1s h2s
 have HA:=Lib.hid (YU i.1 i.2.1 i.2.2.1 i.2.2.2.1 i.2.2.2.2.1 a i.2.2.2.2.2.1 i.2.2.2.2.2.2)
 have HZ:=Lib.hid (Yo i.1)
 have hlen:=Lib.hid hh.len
 have hlen2:=Lib.hid (show(hC {h with held:=false,addr:=0,size:=0}).toArray.size=36 by rw[List.size_toArray];exact Zv (by exact hh.len))
 have hone:=Lib.hid (Zu (ZI {h with held:=false,addr:=0,size:=0}))
 have hMlt:=hM.lt
 clear hh
 unfold ZY
 rw[e0.out]
 dsimp only
 unfold hA i7A
 go_enter func23,ntmps23
 go_upto_region 1 with(fail)
 obtain⟨W1,w1e⟩:∃W1,((w.alloc (Obj.cells (hC h).toArray 25)).alloc (Obj.cells #[.int .i64 i.1,.int .i64 i.2.1,.int .i64 i.2.2.1,.int .i64 i.2.2.2.1,.int .i64 i.2.2.2.2.1,.bool i.2.2.2.2.2.1,.bool i.2.2.2.2.2.2] 50)).alloc (Obj.cells #[.int .u64 0,.int .u64 0,.int .u64 0,.int .u64 0,.int .u64 0,.int .u64 0,.int .u64 0,.int .u64 0,.int .u64 0,.int .u64 0,.int .u64 0,.int .u64 0,.int .u64 0,.int .u64 0,.int .u64 0,.int .u64 0,.int .u64 0,.int .u64 0,.int .u64 0,.int .u64 0,.int .u64 0,.int .u64 0,.int .u64 0,.int .u64 0,.int .u64 0,.int .u64 0,.int .u64 0,.int .u64 0,.int .u64 0,.int .u64 0,.int .u64 0,.int .u64 0,.int .u64 0,.bool false,.int .u64 0,.int .i64 0] 25)=W1:=⟨_,rfl⟩
 have n1:Nb w W1:=by rw[←w1e];exact(((Nb.refl _).alloc _).alloc _).alloc _
 have kH:W1.heap[w.heap.size]? =some (.cells (hC h).toArray 25 (0,0)):=by rw[←w1e];exact Zo (Zo (Zd _ _ rfl) _) _
 have kI:W1.heap[w.heap.size+1]? =some (.cells #[.int .i64 i.1,.int .i64 i.2.1,.int .i64 i.2.2.1,.int .i64 i.2.2.2.1,.int .i64 i.2.2.2.2.1,.bool i.2.2.2.2.2.1,.bool i.2.2.2.2.2.2] 50 (0,0)):=by rw[←w1e];exact Zo (Zd _ _ (by simp)) _
 have kZ:W1.heap[w.heap.size+1+1]? =some (.cells Z8 25 (0,0)):=by rw[←w1e];exact Zd _ _ (by simp)
 rw[w1e]
 clear w1e
 obtain⟨z,c0,c1,c2,c3,c4,c5,c6⟩:=Z4 kI
 go_wp2_with fail
 refine(h1.out _).mono ?_
 rintro e w'⟨rfl,rfl⟩
 go_wp2_with fail
 refine(h2.out _).mono ?_
 rintro e w'⟨rfl,rfl⟩
 go_upto_region 4 with(fail)
 go_region_held3 (fun w'=>Nb W1 w'∧w.heap.size+1<w'.heap.size∧w'.cell? ⟨w.heap.size+1,0,none⟩=some (.int .i64 i.1)∧w'.cell? ⟨w.heap.size+1,1,none⟩=some (.int .i64 i.2.1)∧w'.cell? ⟨w.heap.size+1,2,none⟩=some (.int .i64 i.2.2.1)∧w'.cell? ⟨w.heap.size+1,3,none⟩=some (.int .i64 i.2.2.2.1)∧w'.cell? ⟨w.heap.size+1,4,none⟩=some (.int .i64 i.2.2.2.2.1)∧w'.cell? ⟨w.heap.size+1,5,none⟩=some (.bool i.2.2.2.2.2.1)∧w'.cell? ⟨w.heap.size+1,6,none⟩=some (.bool i.2.2.2.2.2.2))
  (first|assumption|(exact XU (P:=True) (by assumption) (by assumption))|(exact⟨(Nb.refl _).trans ((Nb.refl _).drewN 1),z,c0,c1,c2,c3,c4,c5,c6⟩))
  (first
   |(go_at_call 51;refine(HA.out _).mono ?_;rintro e w1⟨rfl,hnA⟩)
   |(go_at_call 52;refine(HZ.out _).mono ?_;rintro e w1⟨rfl,rfl⟩))
 rename_i hH
 have n4:=n1.trans hH.1
 replace kH:=hH.1.block kH
 replace kI:=hH.1.block kI
 replace kZ:=hH.1.block kZ
 clear z c0 c1 c2 c3 c4 c5 c6 hH HA HZ
 have hM4:=hM.nb n4
 have z4:=Below.size n4
 obtain⟨z,c0,c1,c2,c3,c4,c5,c6⟩:=Z4 kI
 obtain⟨cP,q33,q34,q35⟩:=YE kH hlen.out
 have f33:=Z6 kH 33
 have f34:=Z6 kH 34
 have f35:=Z6 kH 35
 rw[g1.out] at q33
 go_upto_region 13 with(fail)
 obtain⟨W5,w5e⟩:∃W5,((w1.setCell ⟨w.heap.size,33,none⟩ (.bool false)).setCell ⟨w.heap.size,34,none⟩ (.int .u64 0)).setCell ⟨w.heap.size,35,none⟩ (.int .i64 0)=W5:=⟨_,rfl⟩
 have kH4:W5.heap[w.heap.size]? =some (.cells (hC {h with held:=false,addr:=0,size:=0}).toArray 25 (0,0)):=by rw[←w5e,Zg (Zg (Zg kH 33 _) 34 _) 35 _,Yd h hlen.out]
 have oth:∀k,k≠w.heap.size→W5.heap[k]? =w1.heap[k]? :=fun k hk=>by rw[←w5e,Below.heap_setCell _ _ _ _ hk,Below.heap_setCell _ _ _ _ hk,Below.heap_setCell _ _ _ _ hk]
 have n5:Nb w W5:=by rw[←w5e];exact((Below.setCell n4 (p:=⟨w.heap.size,33,none⟩) (Nat.le_refl _) _).setCell (p:=⟨w.heap.size,34,none⟩) (Nat.le_refl _) _).setCell (p:=⟨w.heap.size,35,none⟩) (Nat.le_refl _) _
 rw[w5e]
 clear w5e q33 q34 q35 f33 f34 f35 cP z c0 c1 c2 c3 c4 c5 c6 n4
 replace kI:=(oth _ (by omega)).trans kI
 replace kZ:=(oth _ (by omega)).trans kZ
 clear hM4 oth kH
 have hM4:=hM.nb n5
 have z4:=Below.size n5
 have n4:=n5
 have kH:=kH4
 clear n5 kH4
 obtain⟨z,c0,c1,c2,c3,c4,c5,c6⟩:=Z4 kI
 go_wp2_with (first
  |refine wpList_load_row rfl 25 (.tmp 5) rfl w.heap.size rfl 25 (hC {h with held:=false,addr:=0,size:=0}).toArray (0,0) _ kH underlying25 rfl (by rw[ZA,hlen2.out]) ?_
  |refine wpList_store_row rfl 25 (.tmp 10) (.tmp 79) rfl (w.heap.size+1+1) (hC {h with held:=false,addr:=0,size:=0}).toArray rfl rfl 25 _ kZ (by rw[ZA,hlen2.out]) (by rw[hlen2.out];rfl) hone.out ?_)
 exact YL (n4.grown_none) hM4 kZ hlen2.out (by omega) _ _ _ rfl rfl rfl
theorem Z1M(h:HV)(i:In7)(a b:Int)(p q:Nat)(bs:By)(hh:HOk h)(qa:InU a)(qb:InU b)(qt:InU (AdB i.1 i.2.2.2.2.1 a))(hop:i.1=78)(hL:Zz i.1=false)(hS:Zq i.1=true)(h1s:h.held=true)(h2s:h.addr=(AdB i.1 i.2.2.2.2.1 a))(h3s:h.size≠Za i.1)(hl:bs.length≤16777216)(w:World)(hC0:Cod w)(hM:Mem 85 w p q bs):
  Calls prog 23 #[hA h,i7A i,.int .u64 a,.int .u64 b,.pointer (some ⟨p,0,none⟩)] w (ZY h i a b bs p q w):=by
 have e0:=Lib.hid (show ZC h i a b bs=({h with held:=false,addr:=0,size:=0},1,0,bs) from by
  unfold ZC
  rw[if_neg (by rw[hS];simp),if_neg (by omega),if_pos (by omega),if_neg (fun hh=>h3s hh.2.2)])
 have h1:=Lib.hid (ZZ i.1)
 rw[hL] at h1
 have h2:=Lib.hid (Y4 i.1)
 rw[hS] at h2
 have d66:(i.1==66)=false:=nB (by omega)
 have d77:(i.1==77)=false:=nB (by omega)
 have d67:(i.1==67)=false:=nB (by omega)
 have d78:(i.1==78)=true:=beq_iff_eq.2 hop
 have g1:=Lib.hid h1s
 have g2:(h.addr==(AdB i.1 i.2.2.2.2.1 a))=true:=beq_iff_eq.2 h2s
 have g3:(h.size==Za i.1)=false:=nB h3s
 clear hL hS hop h1s h2s h3s
 have HA:=Lib.hid (YU i.1 i.2.1 i.2.2.1 i.2.2.2.1 i.2.2.2.2.1 a i.2.2.2.2.2.1 i.2.2.2.2.2.2)
 have HZ:=Lib.hid (Yo i.1)
 have hlen:=Lib.hid hh.len
 have hlen2:=Lib.hid (show(hC {h with held:=false,addr:=0,size:=0}).toArray.size=36 by rw[List.size_toArray];exact Zv (by exact hh.len))
 have hone:=Lib.hid (Zu (ZI {h with held:=false,addr:=0,size:=0}))
 have hMlt:=hM.lt
 clear hh
 unfold ZY
 rw[e0.out]
 dsimp only
 unfold hA i7A
 go_enter func23,ntmps23
 go_upto_region 1 with(fail)
 obtain⟨W1,w1e⟩:∃W1,((w.alloc (Obj.cells (hC h).toArray 25)).alloc (Obj.cells #[.int .i64 i.1,.int .i64 i.2.1,.int .i64 i.2.2.1,.int .i64 i.2.2.2.1,.int .i64 i.2.2.2.2.1,.bool i.2.2.2.2.2.1,.bool i.2.2.2.2.2.2] 50)).alloc (Obj.cells #[.int .u64 0,.int .u64 0,.int .u64 0,.int .u64 0,.int .u64 0,.int .u64 0,.int .u64 0,.int .u64 0,.int .u64 0,.int .u64 0,.int .u64 0,.int .u64 0,.int .u64 0,.int .u64 0,.int .u64 0,.int .u64 0,.int .u64 0,.int .u64 0,.int .u64 0,.int .u64 0,.int .u64 0,.int .u64 0,.int .u64 0,.int .u64 0,.int .u64 0,.int .u64 0,.int .u64 0,.int .u64 0,.int .u64 0,.int .u64 0,.int .u64 0,.int .u64 0,.int .u64 0,.bool false,.int .u64 0,.int .i64 0] 25)=W1:=⟨_,rfl⟩
 have n1:Nb w W1:=by rw[←w1e];exact(((Nb.refl _).alloc _).alloc _).alloc _
 have kH:W1.heap[w.heap.size]? =some (.cells (hC h).toArray 25 (0,0)):=by rw[←w1e];exact Zo (Zo (Zd _ _ rfl) _) _
 have kI:W1.heap[w.heap.size+1]? =some (.cells #[.int .i64 i.1,.int .i64 i.2.1,.int .i64 i.2.2.1,.int .i64 i.2.2.2.1,.int .i64 i.2.2.2.2.1,.bool i.2.2.2.2.2.1,.bool i.2.2.2.2.2.2] 50 (0,0)):=by rw[←w1e];exact Zo (Zd _ _ (by simp)) _
 have kZ:W1.heap[w.heap.size+1+1]? =some (.cells Z8 25 (0,0)):=by rw[←w1e];exact Zd _ _ (by simp)
 rw[w1e]
 clear w1e
 obtain⟨z,c0,c1,c2,c3,c4,c5,c6⟩:=Z4 kI
 go_wp2_with fail
 refine(h1.out _).mono ?_
 rintro e w'⟨rfl,rfl⟩
 go_wp2_with fail
 refine(h2.out _).mono ?_
 rintro e w'⟨rfl,rfl⟩
 go_upto_region 4 with(fail)
 go_region_held3 (fun w'=>Nb W1 w'∧w.heap.size+1<w'.heap.size∧w'.cell? ⟨w.heap.size+1,0,none⟩=some (.int .i64 i.1)∧w'.cell? ⟨w.heap.size+1,1,none⟩=some (.int .i64 i.2.1)∧w'.cell? ⟨w.heap.size+1,2,none⟩=some (.int .i64 i.2.2.1)∧w'.cell? ⟨w.heap.size+1,3,none⟩=some (.int .i64 i.2.2.2.1)∧w'.cell? ⟨w.heap.size+1,4,none⟩=some (.int .i64 i.2.2.2.2.1)∧w'.cell? ⟨w.heap.size+1,5,none⟩=some (.bool i.2.2.2.2.2.1)∧w'.cell? ⟨w.heap.size+1,6,none⟩=some (.bool i.2.2.2.2.2.2))
  (first|assumption|(exact XU (P:=True) (by assumption) (by assumption))|(exact⟨(Nb.refl _).trans ((Nb.refl _).drewN 1),z,c0,c1,c2,c3,c4,c5,c6⟩))
  (first
   |(go_at_call 51;refine(HA.out _).mono ?_;rintro e w1⟨rfl,hnA⟩)
   |(go_at_call 52;refine(HZ.out _).mono ?_;rintro e w1⟨rfl,rfl⟩))
 rename_i hH
 have n4:=n1.trans hH.1
 replace kH:=hH.1.block kH
 replace kI:=hH.1.block kI
 replace kZ:=hH.1.block kZ
 clear z c0 c1 c2 c3 c4 c5 c6 hH HA HZ
 have hM4:=hM.nb n4
 have z4:=Below.size n4
 obtain⟨z,c0,c1,c2,c3,c4,c5,c6⟩:=Z4 kI
 obtain⟨cP,q33,q34,q35⟩:=YE kH hlen.out
 have f33:=Z6 kH 33
 have f34:=Z6 kH 34
 have f35:=Z6 kH 35
 rw[g1.out] at q33
 go_upto_region 13 with(fail)
 obtain⟨W5,w5e⟩:∃W5,((w1.setCell ⟨w.heap.size,33,none⟩ (.bool false)).setCell ⟨w.heap.size,34,none⟩ (.int .u64 0)).setCell ⟨w.heap.size,35,none⟩ (.int .i64 0)=W5:=⟨_,rfl⟩
 have kH4:W5.heap[w.heap.size]? =some (.cells (hC {h with held:=false,addr:=0,size:=0}).toArray 25 (0,0)):=by rw[←w5e,Zg (Zg (Zg kH 33 _) 34 _) 35 _,Yd h hlen.out]
 have oth:∀k,k≠w.heap.size→W5.heap[k]? =w1.heap[k]? :=fun k hk=>by rw[←w5e,Below.heap_setCell _ _ _ _ hk,Below.heap_setCell _ _ _ _ hk,Below.heap_setCell _ _ _ _ hk]
 have n5:Nb w W5:=by rw[←w5e];exact((Below.setCell n4 (p:=⟨w.heap.size,33,none⟩) (Nat.le_refl _) _).setCell (p:=⟨w.heap.size,34,none⟩) (Nat.le_refl _) _).setCell (p:=⟨w.heap.size,35,none⟩) (Nat.le_refl _) _
 rw[w5e]
 clear w5e q33 q34 q35 f33 f34 f35 cP z c0 c1 c2 c3 c4 c5 c6 n4
 replace kI:=(oth _ (by omega)).trans kI
 replace kZ:=(oth _ (by omega)).trans kZ
 clear hM4 oth kH
 have hM4:=hM.nb n5
 have z4:=Below.size n5
 have n4:=n5
 have kH:=kH4
 clear n5 kH4
 obtain⟨z,c0,c1,c2,c3,c4,c5,c6⟩:=Z4 kI
 go_wp2_with (first
  |refine wpList_load_row rfl 25 (.tmp 5) rfl w.heap.size rfl 25 (hC {h with held:=false,addr:=0,size:=0}).toArray (0,0) _ kH underlying25 rfl (by rw[ZA,hlen2.out]) ?_
  |refine wpList_store_row rfl 25 (.tmp 10) (.tmp 79) rfl (w.heap.size+1+1) (hC {h with held:=false,addr:=0,size:=0}).toArray rfl rfl 25 _ kZ (by rw[ZA,hlen2.out]) (by rw[hlen2.out];rfl) hone.out ?_)
 exact YL (n4.grown_none) hM4 kZ hlen2.out (by omega) _ _ _ rfl rfl rfl
end Go.Proofs.YtgpdpaljbiclkaaGreatDoor

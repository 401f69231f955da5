/-
  Proved here: what done of the code answers, whatever the instruction; what a step ends in. Conditions: the hart's numbers are words; the memory is one that a call made, of at most 2^24 bytes; the table of codes holds what its text lays. ¦ what Step of the code answers, where nothing is fetched. Conditions: the hart's numbers are words; the memory is one that a call made, of at most 2^24 bytes; the table of codes holds what its text lays. ¦ what Step of the code answers, where something is fetched. Conditions: the hart's numbers are words; the memory is one that a call made, of at most 2^24 bytes; the table of codes holds what its text lays.
-/
import Derived.Test.YtgpdpaljbiclkaaGreatDoorSzz
import Derived.Test.YtgpdpaljbiclkaaGreatDoorSbh
import Derived.BigQuiet
import Derived.Deep.RegionHeld3
set_option maxHeartbeats 4000000
set_option maxRecDepth 100000
section
namespace Go.Proofs.YtgpdpaljbiclkaaGreatDoor
open _root_.Go.Proofs.Tryz
open Go.RowKit
set_option linter.unusedVariables false
set_option linter.unusedSimpArgs false
theorem Z0R(op im a:Int)(qa:InU a):InU (AdB op im a):=by
 unfold AdB
 split
 ·exact qa
 ·split
  ·exact ZF _
  ·exact⟨by omega,by omega⟩
theorem Z5h(n:Int)(hn:n=67∨n=78):Zz n=false∧Zq n=true:=by
 rcases hn with rfl|rfl<;>exact⟨rfl,rfl⟩
theorem Z1N(h:HV)(i:In7)(a b:Int)(p q:Nat)(bs:By)(hh:HOk h)(hi: -9223372036854775808≤i.2.2.2.2.1∧i.2.2.2.2.1<9223372036854775808)(qa:InU a)(qb:InU b)(hl:bs.length≤16777216)(w:World)(hC0:Cod w)(hM:Mem 85 w p q bs):
  Calls prog 23 #[hA h,i7A i,.int .u64 a,.int .u64 b,.pointer (some ⟨p,0,none⟩)] w (ZY h i a b bs p q w):=by
 have qt:=Z0R i.1 i.2.2.2.2.1 a qa
 by_cases h66:i.1=66
 ·exact Z3z h i a b p q bs hh qa qb qt h66 (by rw[h66];rfl) hl w hC0 hM
 by_cases h77:i.1=77
 ·exact Z3A h i a b p q bs hh qa qb qt h77 (by rw[h77];rfl) hl w hC0 hM
 by_cases h67:i.1=67
 ·obtain⟨hL,hS⟩:=Z5h i.1 (.inl h67)
  by_cases k1:h.held=true
  ·by_cases k2:h.addr=AdB i.1 i.2.2.2.2.1 a
   ·by_cases k3:h.size=Za i.1
    ·exact Z1F h i a b p q bs hh qa qb qt h67 hL hS k1 k2 k3 hl w hC0 hM
    ·exact Z1I h i a b p q bs hh qa qb qt h67 hL hS k1 k2 k3 hl w hC0 hM
   ·exact Z1H h i a b p q bs hh qa qb qt h67 hL hS k1 k2 hl w hC0 hM
  ·exact Z1G h i a b p q bs hh qa qb qt h67 hL hS (by simpa using k1) hl w hC0 hM
 by_cases h78:i.1=78
 ·obtain⟨hL,hS⟩:=Z5h i.1 (.inr h78)
  by_cases k1:h.held=true
  ·by_cases k2:h.addr=AdB i.1 i.2.2.2.2.1 a
   ·by_cases k3:h.size=Za i.1
    ·exact Z1J h i a b p q bs hh qa qb qt h78 hL hS k1 k2 k3 hl w hC0 hM
    ·exact Z1M h i a b p q bs hh qa qb qt h78 hL hS k1 k2 k3 hl w hC0 hM
   ·exact Z1L h i a b p q bs hh qa qb qt h78 hL hS k1 k2 hl w hC0 hM
  ·exact Z1K h i a b p q bs hh qa qb qt h78 hL hS (by simpa using k1) hl w hC0 hM
 cases hL:Zz i.1
 ·cases hS:Zq i.1
  ·exact Z2e h i a b p q bs hh hi qa qb ⟨hL,hS⟩ hl w hC0 hM
  ·exact Z2f h i a b p q bs hh qa qb qt hL hS ⟨h66,h77,h67,h78⟩ hl w hC0 hM
 ·exact Z3y h i a b p q bs hh qa qb qt hL ⟨h66,h77,h67,h78⟩ hl w hC0 hM
theorem YO{xs:List Int}(h:∀v ∈ xs,InU v)(r:Nat):InU (rg xs r):=by
 unfold rg
 rw[List.getD_eq_getElem?_getD]
 cases hq:(xs.set 0 0)[r]? with
 |none=>exact⟨by simp,by simp⟩
 |some v=>
  rcases List.mem_or_eq_of_mem_set (List.mem_of_getElem? hq) with hv|rfl
  ·exact h v hv
  ·exact⟨by simp,by simp⟩
theorem Z5i(B:Nat)(xs:List Int)(r:Int)(h0:0≤r)(h1:r<32)(w:World)(hB:w.heap[B]? =some (.cells (xV (xs.set 0 0)).toArray 23 (0,0)))(hx:xs.length=32):
  Calls prog 47 #[.int .i64 r,.pointer (some ⟨B,0,none⟩)] w fun e w'=>e=.returned (.int .u64 (rg xs r.toNat))∧w'=w:=by
 obtain⟨n,rfl⟩:=Int.eq_ofNat_of_zero_le h0
 exact(Z2Z B xs n (by omega) w hB hx).mono fun _ _ ⟨h,k⟩=>⟨h,k.symm⟩
def XO (h:HV) (bs:By) (p q:Nat) (w:World) (e:Ending) (w':World):Prop:=
 e=.returned (.tuple #[hA (stepS h bs).1,.int .i64 (stepS h bs).2.1])∧Mem 85 w' p q (stepS h bs).2.2∧w.grownBy w' (some q)
theorem Z0S{h:HV}{w W1:World}{p q g:Nat}{bs:By}{old:Array Value}(hg:w.grownBy W1 (some q))(hM:Mem 85 W1 p q bs)(k0:W1.heap[g]? =some (.cells old 25 (0,0)))(hlen:(hC h).toArray.size=36)(hgw:w.heap.size≤g)
  (tmps:Array Value) (E:Int) (hp:tmps.getD 4 undef=.pointer (some ⟨g,0,none⟩)) (h5:tmps.getD 5 undef=.int .i64 E):
  bodyPost prog Tryz.f9 (fun e w'=>e=.returned (.tuple #[.agg (hC h).toArray,.int .i64 E])∧Mem 85 w' p q bs∧w.grownBy w' (some q)) Exit.ret {tmps:=tmps,defers:=[]} (W1.setRow g (hC h).toArray):=by
 have k2:=setRow_heap W1 g _ (hC h).toArray 25 _ k0
 have hpg:p≠g:=by
  rintro rfl
  have:=hM.1.symm.trans k0
  simp at this
 have hqg:q≠g:=by
  rintro rfl
  have:=hM.2.symm.trans k0
  simp at this
 refine bodyPost_ret (Z0P rfl _ _ g _ hp (Z09 g _ _ _ _ k2 hlen)) rfl ⟨by rw[h5],⟨(setRow_other W1 g p _ hpg).trans hM.1,(setRow_other W1 g q _ hqg).trans hM.2⟩,?_⟩
 exact⟨hg.os,hg.tape,hg.output,Nat.le_trans hg.size (by simp[World.setRow]),fun k hk hr=>(setRow_other W1 g k _ (by omega)).trans (hg.block k hk hr)⟩
end Go.Proofs.YtgpdpaljbiclkaaGreatDoor
end
section
namespace Go.Proofs.YtgpdpaljbiclkaaGreatDoor
open _root_.Go.Proofs.Tryz
open Go.RowKit
set_option linter.unusedVariables false
set_option linter.unusedSimpArgs false
def iC (i:In7):Array Value:= #[.int .i64 i.1,.int .i64 i.2.1,.int .i64 i.2.2.1,.int .i64 i.2.2.2.1,.int .i64 i.2.2.2.2.1,.bool i.2.2.2.2.2.1,.bool i.2.2.2.2.2.2]
theorem Z0T(i:In7):i7A i=.agg (iC i):=rfl
theorem Xa(i:In7):(iC i).all (·.oneCell')=true:=by simp[iC,Value.oneCell']
theorem Yp(i:In7):(iC i).size=7:=rfl
theorem step_a(h:HV)(p q:Nat)(bs:By)(hh:HOk h)(hl:bs.length≤16777216)(hf:(fetS bs h.pc).2≠0)(w:World)(hC0:Cod w)(hM:Mem 85 w p q bs):
  Calls prog 9 #[hA h,.pointer (some ⟨p,0,none⟩)] w (XO h bs p q w):=by
 have e0:=Lib.hid (show stepS h bs=(h,(fetS bs h.pc).2,bs) from if_neg hf)
 have HF:=Lib.hid fun w1 hc hm=>K7 h.pc p q bs hh.pc hl w1 hc hm
 have hlen2:=Lib.hid (show(hC h).toArray.size=36 by rw[List.size_toArray];exact Zv (by exact hh.len))
 have hone:=Lib.hid (Zu (ZI h))
 have hlen:=Lib.hid hh.len
 unfold XO
 rw[e0.out]
 dsimp only
 generalize fetS bs h.pc=fe at*
 obtain⟨i,E⟩:=fe
 dsimp only at hf ⊢
 have hf':(E !=0)=true:=by simp[bne,hf]
 clear hh hf
 unfold hA
 go_enter func9,ntmps9
 go_upto_region 1 with(fail)
 obtain⟨W1,w1e⟩:∃W1,(w.alloc (Obj.cells (hC h).toArray 25)).alloc (Obj.cells Z8 25)=W1:=⟨_,rfl⟩
 have n1:Nb w W1:=by rw[←w1e];exact((Nb.refl _).alloc _).alloc _
 have kH:W1.heap[w.heap.size]? =some (.cells (hC h).toArray 25 (0,0)):=by rw[←w1e];exact Zo (Zd _ _ rfl) _
 have kZ:W1.heap[w.heap.size+1]? =some (.cells Z8 25 (0,0)):=by rw[←w1e];exact Zd _ _ (by simp)
 change Code.wp _ _ _ _ ((w.alloc (Obj.cells (hC h).toArray 25)).alloc (Obj.cells Z8 25))
 rw[w1e]
 clear w1e
 obtain⟨cP,-⟩:=YE kH hlen.out
 go_wp2_with fail
 refine(HF.out _ (hC0.of_nb n1) (hM.nb n1)).mono ?_
 rintro e w2⟨rfl,n2⟩
 have nn:=n1.trans n2
 replace kH:=n2.block kH
 replace kZ:=n2.block kZ
 rw[Z0T]
 clear cP HF n1 n2
 go_upto_region 2 with(first
  |refine wpList_store_row rfl 50 (.tmp 6) (.tmp 18) rfl w2.heap.size (iC i) rfl rfl 50 _ (heap_alloc_new w2 _) (by rw[X3,Yp]) rfl (Xa i) ?_)
 obtain⟨W3,w3e⟩:∃W3,(w2.alloc (Obj.cells #[.int .i64 0,.int .i64 0,.int .i64 0,.int .i64 0,.int .i64 0,.bool false,.bool false] 50)).setRow w2.heap.size (iC i)=W3:=⟨_,rfl⟩
 have n3:Nb w2 W3:=by rw[←w3e];exact((Nb.refl _).alloc _).setRow (Nat.le_refl _) _
 have kI:W3.heap[w2.heap.size]? =some (.cells (iC i) 50 (0,0)):=by rw[←w3e];exact setRow_heap _ _ _ _ _ _ (heap_alloc_new w2 _)
 have zz:=Below.size nn
 rw[w3e]
 clear w3e
 replace kH:=n3.block kH
 replace kZ:=n3.block kZ
 have n4:=nn.trans n3
 clear n3 nn
 go_wp2_with (first
  |refine wpList_load_row rfl 25 (.tmp 2) rfl w.heap.size rfl 25 (hC h).toArray (0,0) _ kH underlying25 rfl (by rw[ZA,hlen2.out]) ?_
  |refine wpList_store_row rfl 25 (.tmp 4) (.tmp 22) rfl (w.heap.size+1) (hC h).toArray rfl rfl 25 _ kZ (by rw[ZA,hlen2.out]) (by rw[hlen2.out];rfl) hone.out ?_)
 exact Z0S (n4.grown_none) (hM.nb n4) kZ hlen2.out (by omega) _ _ rfl rfl
end Go.Proofs.YtgpdpaljbiclkaaGreatDoor
end
section
namespace Go.Proofs.YtgpdpaljbiclkaaGreatDoor
open _root_.Go.Proofs.Tryz
open Go.RowKit
set_option linter.unusedVariables false
set_option linter.unusedSimpArgs false
theorem Z5j(h:HV)(i:In7)(a b:Int)(bs:By):(ZC h i a b bs).1.x=h.x:=by
 unfold ZC
 split
 ·rfl
 ·split
  ·rfl
  ·split
   ·split<;>rfl
   ·rfl
theorem YF{w a c:World}{r:Option Nat}(g:w.grownBy a r)(n:Nb a c):w.grownBy c r:=
 ⟨(Below.os n).trans g.os,(Below.tape n).trans g.tape,(Below.output n).trans g.output,Nat.le_trans g.size (Below.size n),fun k hk hr=>(Below.block n k (Nat.lt_of_lt_of_le hk g.size)).trans (g.block k hk hr)⟩
theorem Xk{op rd rs1 rs2 im:Int}{aq rl:Bool}(h:GoodB op rd rs1 rs2 im aq rl=true):(0≤rd∧rd<32)∧(0≤rs1∧rs1<32)∧(0≤rs2∧rs2<32):=by
 unfold GoodB at h
 split at h
 ·cases h
 ·simp only[Bool.and_eq_true,Yw,decide_eq_true_eq] at h
  omega
theorem ldx{w:World}{g:Nat}{h:HV}(k:w.heap[g]? =some (.cells (hC h).toArray 25 (0,0)))(hl:h.x.length=32):(loadVar 23 ⟨g,1,none⟩).run prog w=.ok (.agg (xV h.x).toArray) w:=
 KW w g 1 _ _ _ (xV h.x) _ _ k underlying23 rfl (by rw[KX,YW,hl]) (fun j v hv=>by
  rw[List.getElem?_toArray,Nat.add_comm]
  unfold hC
  rw[List.getElem?_cons_succ,List.getElem?_append_left (by have:=List.getElem?_eq_some_iff.1 hv;exact this.1)]
  exact hv)
theorem Cod.grown{T:TypeId}{a b:World}{p q:Nat}{bs:By}(h:Cod a)(hM:Mem T a p q bs)(g:a.grownBy b (some q)):Cod b:=by
 have hne: 0≠q:=by
  intro e
  subst e
  have h0:=h.2 0 (by omega)
  rw[cell_of_row _ _ 0 _ _ _ hM.2,List.getElem?_toArray,Lib.byteCells,List.getElem?_map] at h0
  cases hb:bs[0]? <;>rw[hb] at h0<;>simp at h0
 exact⟨Nat.lt_of_lt_of_le h.1 g.size,fun i hi=>(World.cell?_of_block (g.block _ h.1 (by intro e;injection e with e;exact hne e))).trans (h.2 i hi)⟩
theorem Z0n(h:HV)(P:Int):(hC h).toArray.setIfInBounds 0 (.int .u64 P)=(hC {h with pc:=P}).toArray:=by
 unfold hC
 simp
theorem hC_x(h:HV)(xs:List Int)(k:h.x.length=32)(k2:xs.length=32):((hC h).toArray.toList.take 1++xV xs++(hC h).toArray.toList.drop (1+(xV xs).length)).toArray=(hC {h with x:=xs}).toArray:=by
 have e:(xV h.x).length=32:=by rw[YW];exact k
 rw[YW,k2]
 unfold hC
 simp[e,List.drop_append]
theorem Z0U{P:Program}{o:Oper}{a:Act}{w w1:World}{K:Act→World→Prop}{Q:Exit→Act→World→Prop}(ty:TypeId)(x y:Operand)(ho:o.op=.store ty x y)
  (p:Addr) (v:Value) (hx:a.eval x=.pointer (some p)) (hy:a.eval y=v) (hr:(storeVar ty p v).run P w=.ok () w1) (h:K (a.put o.dst undef) w1):Oper.wp P o a w K Q:=by
 unfold Oper.wp execOp
 simp only[ho,hx,hy,Instr.storeAt,Instr.sureAddr,Sem.run_bind,Sem.run_pure,Result.andThen_ok,hr]
 exact h
theorem writ_q(xs:List Int)(hx:xs.length=32)(r:Int)(h0:0≤r)(h1:r<32)(v:Int)(w:World):
  Calls prog 25 #[.agg (xV xs).toArray,.int .i64 r,.int .u64 v] w fun e w'=>e=.returned (.agg (xV ((xs.set r.toNat v).set 0 0)).toArray)∧Nb w w':=by
 obtain⟨n,rfl⟩:=Int.eq_ofNat_of_zero_le h0
 exact Z15 xs hx n (by omega) v w
theorem step_b(h:HV)(i:In7)(p q:Nat)(bs:By)(hh:HOk h)(hl:bs.length≤16777216)(hf:fetS bs h.pc=(i,0))(hg:GoodB i.1 i.2.1 i.2.2.1 i.2.2.2.1 i.2.2.2.2.1 i.2.2.2.2.2.1 i.2.2.2.2.2.2=true)(hi: -9223372036854775808≤i.2.2.2.2.1∧i.2.2.2.2.1<9223372036854775808)(hd:(ZC h i (rg h.x i.2.2.1.toNat) (rg h.x i.2.2.2.1.toNat) bs).2.2.1≠0)(w:World)(hC0:Cod w)(hM:Mem 85 w p q bs):
  Calls prog 9 #[hA h,.pointer (some ⟨p,0,none⟩)] w (XO h bs p q w):=by
 have e0:=Lib.hid (show stepS h bs=(h,(ZC h i (rg h.x i.2.2.1.toNat) (rg h.x i.2.2.2.1.toNat) bs).2.2.1,(ZC h i (rg h.x i.2.2.1.toNat) (rg h.x i.2.2.2.1.toNat) bs).2.2.2) from by
  unfold stepS
  rw[hf]
  exact(if_pos rfl).trans (if_neg hd))
 have hd':((ZC h i (rg h.x i.2.2.1.toNat) (rg h.x i.2.2.2.1.toNat) bs).2.2.1 !=0)=true:=by simp[bne,hd]
 have a0:0≤i.2.2.1∧i.2.2.1<32:=(Xk hg).2.1
 have b0:0≤i.2.2.2.1∧i.2.2.2.1<32:=(Xk hg).2.2
 obtain⟨a01,a02⟩:=a0
 obtain⟨b01,b02⟩:=b0
 have qa:=Lib.hid (YO hh.x i.2.2.1.toNat)
 have qb:=Lib.hid (YO hh.x i.2.2.2.1.toNat)
 have HF:=Lib.hid (show ∀w1,Cod w1→Mem 85 w1 p q bs→Calls prog 21 #[.int .u64 h.pc,.pointer (some ⟨p,0,none⟩)] w1 fun e w'=>e=.returned (.tuple #[i7A i,.int .i64 0])∧Nb w1 w' from fun w1 hc hm=>by
  have:=K7 h.pc p q bs hh.pc hl w1 hc hm
  rw[hf] at this
  exact this)
 have HR:=Lib.hid (Jf h.x hh.len)
 have HD:=Lib.hid fun w1 hc hm=>Z1N h i (rg h.x i.2.2.1.toNat) (rg h.x i.2.2.2.1.toNat) p q bs hh hi qa.out qb.out hl w1 hc hm
 have hlen2:=Lib.hid (show(hC h).toArray.size=36 by rw[List.size_toArray];exact Zv (by exact hh.len))
 have hone:=Lib.hid (Zu (ZI h))
 have hlen:=Lib.hid hh.len
 have hpc:=Lib.hid hh.pc
 unfold XO
 rw[e0.out]
 dsimp only
 clear hf hd
 generalize hda:rg h.x i.2.2.1.toNat=a at*
 generalize hdb:rg h.x i.2.2.2.1.toNat=b at*
 unfold hA
 go_enter func9,ntmps9
 go_upto_region 1 with(fail)
 obtain⟨W1,w1e⟩:∃W1,(w.alloc (Obj.cells (hC h).toArray 25)).alloc (Obj.cells Z8 25)=W1:=⟨_,rfl⟩
 have n1:Nb w W1:=by rw[←w1e];exact((Nb.refl _).alloc _).alloc _
 have kH:W1.heap[w.heap.size]? =some (.cells (hC h).toArray 25 (0,0)):=by rw[←w1e];exact Zo (Zd _ _ rfl) _
 have kZ:W1.heap[w.heap.size+1]? =some (.cells Z8 25 (0,0)):=by rw[←w1e];exact Zd _ _ (by simp)
 change Code.wp _ _ _ _ ((w.alloc (Obj.cells (hC h).toArray 25)).alloc (Obj.cells Z8 25))
 rw[w1e]
 clear w1e
 obtain⟨cP,-⟩:=YE kH hlen.out
 go_wp2_with fail
 refine(HF.out _ (hC0.of_nb n1) (hM.nb n1)).mono ?_
 rintro e w2⟨rfl,n2⟩
 have nn:=n1.trans n2
 replace kH:=n2.block kH
 replace kZ:=n2.block kZ
 rw[Z0T]
 clear cP HF n1 n2
 go_upto_region 2 with(first
  |refine wpList_store_row rfl 50 (.tmp 6) (.tmp 18) rfl w2.heap.size (iC i) rfl rfl 50 _ (heap_alloc_new w2 _) (by rw[X3,Yp]) rfl (Xa i) ?_)
 obtain⟨W3,w3e⟩:∃W3,(w2.alloc (Obj.cells #[.int .i64 0,.int .i64 0,.int .i64 0,.int .i64 0,.int .i64 0,.bool false,.bool false] 50)).setRow w2.heap.size (iC i)=W3:=⟨_,rfl⟩
 have n3:Nb w2 W3:=by rw[←w3e];exact((Nb.refl _).alloc _).setRow (Nat.le_refl _) _
 have kI:W3.heap[w2.heap.size]? =some (.cells (iC i) 50 (0,0)):=by rw[←w3e];exact setRow_heap _ _ _ _ _ _ (heap_alloc_new w2 _)
 have zz:=Below.size nn
 have zz2:=Zf kZ
 have zi:=Zf kI
 rw[w3e]
 clear w3e
 replace kH:=n3.block kH
 replace kZ:=n3.block kZ
 have n4:=nn.trans n3
 clear n3 nn
 obtain⟨g,hgE⟩:∃g,w2.heap.size=g:=⟨_,rfl⟩
 rw[hgE] at kI zi zz zz2 ⊢
 clear hgE
 go_wp2_with (first
  |refine Y0 rfl 23 (.tmp 24) rfl ⟨w.heap.size,1,none⟩ rfl (.agg (xV h.x).toArray) (ldx kH hlen.out) ?_)
 refine(HR.out _).mono ?_
 rintro e w5⟨rfl,kR,nR⟩
 obtain⟨gr,hgr⟩:∃gr,W3.heap.size=gr:=⟨_,rfl⟩
 rw[hgr] at kR zi ⊢
 replace kH:=nR.block _ (by rw[hgr];omega)|>.trans kH
 replace kZ:=nR.block _ (by rw[hgr];omega)|>.trans kZ
 replace kI:=nR.block _ (by rw[hgr];omega)|>.trans kI
 have n5:Nb w w5:=n4.trans nR
 clear n4 nR hgr HR
 go_upto_region 5 with(fail)
 go_region_held3 (fun w'=>w'.heap[gr]? =some (.cells (xV (h.x.set 0 0)).toArray 23 (0,0))∧w'.cell? ⟨g,2,none⟩=some (.int .i64 i.2.2.1)∧w'.cell? ⟨g,3,none⟩=some (.int .i64 i.2.2.2.1))
  (first|assumption|(exact⟨kR,(Z4 kI).2.2.2.1,(Z4 kI).2.2.2.2.1⟩))
  (first|(go_at_call 47;refine(Z5i gr h.x _ (by assumption) (by assumption) _ (by first|assumption|(go_split_ands;assumption)) hlen.out).mono ?_;rintro e w1⟨rfl,rfl⟩))
 have n6:Nb w w5.drew:=n5.trans ((Nb.refl _).drewN 1)
 have kH6:w5.drew.heap[w.heap.size]? =some (.cells (hC h).toArray 25 (0,0)):=kH
 have kZ6:w5.drew.heap[w.heap.size+1]? =some (.cells Z8 25 (0,0)):=kZ
 have kI6:w5.drew.heap[g]? =some (.cells (iC i) 50 (0,0)):=kI
 clear kH kZ kI kR n5
 generalize w5.drew=w6 at*
 go_wp2_with (first
  |refine wpList_load_row rfl 25 (.tmp 2) rfl w.heap.size rfl 25 (hC h).toArray (0,0) _ kH6 underlying25 rfl (by rw[ZA,hlen2.out]) ?_
  |refine wpList_load_row rfl 50 (.tmp 6) rfl g rfl 50 (iC i) (0,0) _ kI6 underlying50 rfl (by rw[X3,Yp]) ?_)
 refine(HD.out _ (hC0.of_nb n6) (hM.nb n6)).mono ?_
 unfold ZY
 rintro e w7⟨rfl,hM7,g7⟩
 clear HD
 have hMlt:=hM.lt
 have kH7:=(g7.block _ (Zf kH6) (by intro e;injection e with e;omega)).trans kH6
 have kZ7:=(g7.block _ (Zf kZ6) (by intro e;injection e with e;omega)).trans kZ6
 have kI7:=(g7.block _ (Zf kI6) (by intro e;injection e with e;omega)).trans kI6
 have gg:=Zx n6 g7
 have hsz:=Nat.le_trans (Below.size n6) g7.size
 have hgl:=Nat.lt_of_lt_of_le (Zf kI6) g7.size
 have hzl:=Nat.lt_of_lt_of_le (Zf kZ6) g7.size
 clear kH6 kZ6 kI6 g7 n6
 have hlenX:=Lib.hid (show(hC (ZC h i a b bs).1).toArray.size=36 by rw[List.size_toArray];exact Zv (by rw[Z5j];exact hlen.out))
 have honeX:=Lib.hid (Zu (ZI (ZC h i a b bs).1))
 go_upto_region 7 with(first
  |refine wpList_store_row rfl 25 (.tmp 11) (.tmp 42) rfl w7.heap.size (hC (ZC h i a b bs).1).toArray rfl rfl 25 Z8 (heap_alloc_new w7 _) (by rw[ZA,hlenX.out]) (by rw[hlenX.out];rfl) honeX.out ?_)
 obtain⟨W8,w8e⟩:∃W8,(w7.alloc (Obj.cells Z8 25)).setRow w7.heap.size (hC (ZC h i a b bs).1).toArray=W8:=⟨_,rfl⟩
 have n8:Nb w7 W8:=by rw[←w8e];exact((Nb.refl _).alloc _).setRow (Nat.le_refl _) _
 have kX:W8.heap[w7.heap.size]? =some (.cells (hC (ZC h i a b bs).1).toArray 25 (0,0)):=by rw[←w8e];exact setRow_heap _ _ _ _ _ _ (heap_alloc_new w7 _)
 have hs8:W8.heap.size=w7.heap.size+1:=by rw[←w8e];simp[World.setRow]
 change Code.wp _ _ _ _ ((w7.alloc (Obj.cells Z8 25)).setRow w7.heap.size (hC (ZC h i a b bs).1).toArray)
 rw[w8e]
 clear w8e
 have kH8:=n8.block kH7
 have kZ8:=n8.block kZ7
 have kI8:=n8.block kI7
 have hM8:=hM7.nb n8
 have g8:=YF gg n8
 go_wp2_with (first
  |refine wpList_load_row rfl 25 (.tmp 2) rfl w.heap.size rfl 25 (hC h).toArray (0,0) _ kH8 underlying25 rfl (by rw[ZA,hlen2.out]) ?_
  |refine wpList_store_row rfl 25 (.tmp 4) (.tmp 47) rfl (w.heap.size+1) (hC h).toArray rfl rfl 25 _ kZ8 (by rw[ZA,hlen2.out]) (by rw[hlen2.out];rfl) hone.out ?_)
 exact Z0S g8 hM8 kZ8 hlen2.out (by omega) _ _ rfl rfl
theorem step_c(h:HV)(i:In7)(p q:Nat)(bs:By)(hh:HOk h)(hl:bs.length≤16777216)(hf:fetS bs h.pc=(i,0))(hg:GoodB i.1 i.2.1 i.2.2.1 i.2.2.2.1 i.2.2.2.2.1 i.2.2.2.2.2.1 i.2.2.2.2.2.2=true)(hi: -9223372036854775808≤i.2.2.2.2.1∧i.2.2.2.2.1<9223372036854775808)(hd:(ZC h i (rg h.x i.2.2.1.toNat) (rg h.x i.2.2.2.1.toNat) bs).2.2.1=0)(w:World)(hC0:Cod w)(hM:Mem 85 w p q bs):
  Calls prog 9 #[hA h,.pointer (some ⟨p,0,none⟩)] w (XO h bs p q w):=by
 have e0:=Lib.hid (show stepS h bs=({(ZC h i (rg h.x i.2.2.1.toNat) (rg h.x i.2.2.2.1.toNat) bs).1 with pc:=Yv i h.pc (rg h.x i.2.2.1.toNat) (rg h.x i.2.2.2.1.toNat),x:=(h.x.set i.2.1.toNat (ZC h i (rg h.x i.2.2.1.toNat) (rg h.x i.2.2.2.1.toNat) bs).2.1).set 0 0},0,(ZC h i (rg h.x i.2.2.1.toNat) (rg h.x i.2.2.2.1.toNat) bs).2.2.2) from by
  unfold stepS
  rw[hf]
  exact(if_pos rfl).trans (if_pos hd))
 have hd':((ZC h i (rg h.x i.2.2.1.toNat) (rg h.x i.2.2.2.1.toNat) bs).2.2.1 !=0)=false:=by rw[hd];rfl
 have a0:0≤i.2.2.1∧i.2.2.1<32:=(Xk hg).2.1
 have b0:0≤i.2.2.2.1∧i.2.2.2.1<32:=(Xk hg).2.2
 obtain⟨a01,a02⟩:=a0
 obtain⟨b01,b02⟩:=b0
 have qa:=Lib.hid (YO hh.x i.2.2.1.toNat)
 have qb:=Lib.hid (YO hh.x i.2.2.2.1.toNat)
 have HF:=Lib.hid (show ∀w1,Cod w1→Mem 85 w1 p q bs→Calls prog 21 #[.int .u64 h.pc,.pointer (some ⟨p,0,none⟩)] w1 fun e w'=>e=.returned (.tuple #[i7A i,.int .i64 0])∧Nb w1 w' from fun w1 hc hm=>by
  have:=K7 h.pc p q bs hh.pc hl w1 hc hm
  rw[hf] at this
  exact this)
 have HR:=Lib.hid (Jf h.x hh.len)
 have HD:=Lib.hid fun w1 hc hm=>Z1N h i (rg h.x i.2.2.1.toNat) (rg h.x i.2.2.2.1.toNat) p q bs hh hi qa.out qb.out hl w1 hc hm
 have hlen2:=Lib.hid (show(hC h).toArray.size=36 by rw[List.size_toArray];exact Zv (by exact hh.len))
 have hone:=Lib.hid (Zu (ZI h))
 have hlen:=Lib.hid hh.len
 have hpc:=Lib.hid hh.pc
 unfold XO
 rw[e0.out]
 dsimp only
 clear hf hd
 generalize hda:rg h.x i.2.2.1.toNat=a at*
 generalize hdb:rg h.x i.2.2.2.1.toNat=b at*
 unfold hA
 go_enter func9,ntmps9
 go_upto_region 1 with(fail)
 obtain⟨W1,w1e⟩:∃W1,(w.alloc (Obj.cells (hC h).toArray 25)).alloc (Obj.cells Z8 25)=W1:=⟨_,rfl⟩
 have n1:Nb w W1:=by rw[←w1e];exact((Nb.refl _).alloc _).alloc _
 have kH:W1.heap[w.heap.size]? =some (.cells (hC h).toArray 25 (0,0)):=by rw[←w1e];exact Zo (Zd _ _ rfl) _
 have kZ:W1.heap[w.heap.size+1]? =some (.cells Z8 25 (0,0)):=by rw[←w1e];exact Zd _ _ (by simp)
 change Code.wp _ _ _ _ ((w.alloc (Obj.cells (hC h).toArray 25)).alloc (Obj.cells Z8 25))
 rw[w1e]
 clear w1e
 obtain⟨cP,-⟩:=YE kH hlen.out
 go_wp2_with fail
 refine(HF.out _ (hC0.of_nb n1) (hM.nb n1)).mono ?_
 rintro e w2⟨rfl,n2⟩
 have nn:=n1.trans n2
 replace kH:=n2.block kH
 replace kZ:=n2.block kZ
 rw[Z0T]
 clear cP HF n1 n2
 go_upto_region 2 with(first
  |refine wpList_store_row rfl 50 (.tmp 6) (.tmp 18) rfl w2.heap.size (iC i) rfl rfl 50 _ (heap_alloc_new w2 _) (by rw[X3,Yp]) rfl (Xa i) ?_)
 obtain⟨W3,w3e⟩:∃W3,(w2.alloc (Obj.cells #[.int .i64 0,.int .i64 0,.int .i64 0,.int .i64 0,.int .i64 0,.bool false,.bool false] 50)).setRow w2.heap.size (iC i)=W3:=⟨_,rfl⟩
 have n3:Nb w2 W3:=by rw[←w3e];exact((Nb.refl _).alloc _).setRow (Nat.le_refl _) _
 have kI:W3.heap[w2.heap.size]? =some (.cells (iC i) 50 (0,0)):=by rw[←w3e];exact setRow_heap _ _ _ _ _ _ (heap_alloc_new w2 _)
 have zz:=Below.size nn
 have zz2:=Zf kZ
 have zi:=Zf kI
 rw[w3e]
 clear w3e
 replace kH:=n3.block kH
 replace kZ:=n3.block kZ
 have n4:=nn.trans n3
 clear n3 nn
 obtain⟨g,hgE⟩:∃g,w2.heap.size=g:=⟨_,rfl⟩
 rw[hgE] at kI zi zz zz2 ⊢
 clear hgE
 go_wp2_with (first
  |refine Y0 rfl 23 (.tmp 24) rfl ⟨w.heap.size,1,none⟩ rfl (.agg (xV h.x).toArray) (ldx kH hlen.out) ?_)
 refine(HR.out _).mono ?_
 rintro e w5⟨rfl,kR,nR⟩
 obtain⟨gr,hgr⟩:∃gr,W3.heap.size=gr:=⟨_,rfl⟩
 rw[hgr] at kR zi ⊢
 replace kH:=nR.block _ (by rw[hgr];omega)|>.trans kH
 replace kZ:=nR.block _ (by rw[hgr];omega)|>.trans kZ
 replace kI:=nR.block _ (by rw[hgr];omega)|>.trans kI
 have n5:Nb w w5:=n4.trans nR
 clear n4 nR hgr HR
 go_upto_region 5 with(fail)
 go_region_held3 (fun w'=>w'.heap[gr]? =some (.cells (xV (h.x.set 0 0)).toArray 23 (0,0))∧w'.cell? ⟨g,2,none⟩=some (.int .i64 i.2.2.1)∧w'.cell? ⟨g,3,none⟩=some (.int .i64 i.2.2.2.1))
  (first|assumption|(exact⟨kR,(Z4 kI).2.2.2.1,(Z4 kI).2.2.2.2.1⟩))
  (first|(go_at_call 47;refine(Z5i gr h.x _ (by assumption) (by assumption) _ (by first|assumption|(go_split_ands;assumption)) hlen.out).mono ?_;rintro e w1⟨rfl,rfl⟩))
 have n6:Nb w w5.drew:=n5.trans ((Nb.refl _).drewN 1)
 have kH6:w5.drew.heap[w.heap.size]? =some (.cells (hC h).toArray 25 (0,0)):=kH
 have kZ6:w5.drew.heap[w.heap.size+1]? =some (.cells Z8 25 (0,0)):=kZ
 have kI6:w5.drew.heap[g]? =some (.cells (iC i) 50 (0,0)):=kI
 clear kH kZ kI kR n5
 generalize w5.drew=w6 at*
 go_wp2_with (first
  |refine wpList_load_row rfl 25 (.tmp 2) rfl w.heap.size rfl 25 (hC h).toArray (0,0) _ kH6 underlying25 rfl (by rw[ZA,hlen2.out]) ?_
  |refine wpList_load_row rfl 50 (.tmp 6) rfl g rfl 50 (iC i) (0,0) _ kI6 underlying50 rfl (by rw[X3,Yp]) ?_)
 refine(HD.out _ (hC0.of_nb n6) (hM.nb n6)).mono ?_
 unfold ZY
 rintro e w7⟨rfl,hM7,g7⟩
 clear HD
 have hMlt:=hM.lt
 have kH7:=(g7.block _ (Zf kH6) (by intro e;injection e with e;omega)).trans kH6
 have kZ7:=(g7.block _ (Zf kZ6) (by intro e;injection e with e;omega)).trans kZ6
 have kI7:=(g7.block _ (Zf kI6) (by intro e;injection e with e;omega)).trans kI6
 have gg:=Zx n6 g7
 have hsz:=Nat.le_trans (Below.size n6) g7.size
 have hgl:=Nat.lt_of_lt_of_le (Zf kI6) g7.size
 have hzl:=Nat.lt_of_lt_of_le (Zf kZ6) g7.size
 clear kH6 kZ6 kI6 g7 n6
 have hlenX:=Lib.hid (show(hC (ZC h i a b bs).1).toArray.size=36 by rw[List.size_toArray];exact Zv (by rw[Z5j];exact hlen.out))
 have honeX:=Lib.hid (Zu (ZI (ZC h i a b bs).1))
 go_upto_region 7 with(first
  |refine wpList_store_row rfl 25 (.tmp 11) (.tmp 42) rfl w7.heap.size (hC (ZC h i a b bs).1).toArray rfl rfl 25 Z8 (heap_alloc_new w7 _) (by rw[ZA,hlenX.out]) (by rw[hlenX.out];rfl) honeX.out ?_)
 obtain⟨W8,w8e⟩:∃W8,(w7.alloc (Obj.cells Z8 25)).setRow w7.heap.size (hC (ZC h i a b bs).1).toArray=W8:=⟨_,rfl⟩
 have n8:Nb w7 W8:=by rw[←w8e];exact((Nb.refl _).alloc _).setRow (Nat.le_refl _) _
 have kX:W8.heap[w7.heap.size]? =some (.cells (hC (ZC h i a b bs).1).toArray 25 (0,0)):=by rw[←w8e];exact setRow_heap _ _ _ _ _ _ (heap_alloc_new w7 _)
 have hs8:W8.heap.size=w7.heap.size+1:=by rw[←w8e];simp[World.setRow]
 change Code.wp _ _ _ _ ((w7.alloc (Obj.cells Z8 25)).setRow w7.heap.size (hC (ZC h i a b bs).1).toArray)
 rw[w8e]
 clear w8e
 have kH8:=n8.block kH7
 have kZ8:=n8.block kZ7
 have kI8:=n8.block kI7
 have hM8:=hM7.nb n8
 have g8:=YF gg n8
 have cod7:=hC0.grown hM gg
 have HFO:=Lib.hid fun w1 hc=>Z08 i h.pc a b hi hpc.out qa.out qb.out w1 hc
 have HS:=Lib.hid (show ∀w1,Cod w1→Calls prog 26 #[.agg (iC i)] w1 fun e w'=>e=.returned (.int .i64 i.2.1)∧Nb w1 w' from fun w1 hc=>by
  have:=Z4q i.1 i.2.1 i.2.2.1 i.2.2.2.1 i.2.2.2.2.1 i.2.2.2.2.2.1 i.2.2.2.2.2.2 hi.1 hi.2 w1 hc
  rw[if_pos hg] at this
  exact this)
 obtain⟨d01,d02⟩:=(Xk hg).1
 have HW:=Lib.hid fun v w1=>writ_q h.x hlen.out i.2.1 d01 d02 v w1
 have hxl:=Lib.hid (show((h.x.set i.2.1.toNat (ZC h i a b bs).2.1).set 0 0).length=32 by simp[hlen.out])
 have hxd:=Lib.hid (show((ZC h i a b bs).1).x.length=32 by rw[Z5j];exact hlen.out)
 obtain⟨cP,-⟩:=YE kH8 hlen.out
 go_wp2_with (first
  |refine wpList_load_row rfl 50 (.tmp 6) rfl g rfl 50 (iC i) (0,0) _ kI8 underlying50 rfl (by rw[X3,Yp]) ?_)
 refine(HFO.out _ (cod7.of_nb n8)).mono ?_
 rintro e w9⟨rfl,n9⟩
 have kX9:=n9.block kX
 replace n9:=n8.trans n9
 obtain⟨cX,-⟩:=YE kX9 hxd.out
 have fX:=Z6 kX9 0
 go_upto_region 10 with(fail)
 obtain⟨W10,w10e⟩:∃W10,w9.setCell ⟨w7.heap.size,0,none⟩ (.int .u64 (Yv i h.pc a b))=W10:=⟨_,rfl⟩
 have kX10:W10.heap[w7.heap.size]? =some (.cells (hC {(ZC h i a b bs).1 with pc:=Yv i h.pc a b}).toArray 25 (0,0)):=by rw[←w10e,Zg kX9,Z0n]
 have n10:Nb w7 W10:=by rw[←w10e];exact Below.setCell n9 (p:=⟨w7.heap.size,0,none⟩) (Nat.le_refl _) _
 rw[w10e]
 clear w10e cP cX fX kX9 n9 kX kH8 kZ8 kI8 hM8 g8 n8
 have kH10:=n10.block kH7
 have kI10:=n10.block kI7
 refine wp_region_held_drew (S:=fun w'=>w'.heap[w.heap.size]? =some (.cells (hC h).toArray 25 (0,0))∧w'.heap[g]? =some (.cells (iC i) 50 (0,0))) (by kernel_rfl) ⟨kH10,kI10⟩ (fun hHeld=> ?_)
 change wpAnyH _ _ _ _ _ 8 (List.toArray [false,false,false,false,false,false,false,false]) _ _
 refine Zc (i:=0) (v:= .pointer (some ⟨w.heap.size,1,none⟩)) rfl (by kernel_rfl) (by kernel_rfl) (by kernel_rfl) (fun _ _ _ h=>h) (.inl ⟨by rfl,by intro w' hw;go_simp⟩) hHeld ?_
 simp only[Act.put,sI,sZ,sS]
 refine Zc (i:=1) (v:= .agg (xV h.x).toArray) rfl (by kernel_rfl) (by kernel_rfl) (by kernel_rfl) (fun _ _ _ h=>h) (Zt (by rfl) 23 (.tmp 56) rfl ⟨w.heap.size,1,none⟩ rfl _ (fun w' hw=>ldx hw.1 hlen.out)) hHeld ?_
 simp only[Act.put,sI,sZ,sS]
 refine Zc (i:=2) (v:= .agg (iC i)) rfl (by kernel_rfl) (by kernel_rfl) (by kernel_rfl) (fun _ _ _ h=>h) (Zt (by rfl) 50 (.tmp 6) rfl ⟨g,0,none⟩ rfl _ (fun w' hw=>run_loadVar_row _ _ _ _ _ (0,0) _ hw.2 underlying50 rfl (by rw[X3,Yp]))) hHeld ?_
 simp only[Act.put,sI,sZ,sS]
 refine Zc (i:=4) (v:= .int .u64 (ZC h i a b bs).2.1) rfl (by kernel_rfl) (by kernel_rfl) (by kernel_rfl) (fun _ _ _ h=>h) (.inl ⟨by rfl,by intro w' hw;go_simp⟩) hHeld ?_
 simp only[Act.put,sI,sZ,sS]
 have n10d:Nb w7 W10.drew:=n10.trans ((Nb.refl _).drewN 1)
 have kX10d:W10.drew.heap[w7.heap.size]? =some (.cells (hC {(ZC h i a b bs).1 with pc:=Yv i h.pc a b}).toArray 25 (0,0)):=kX10
 clear kX10 n10 kH10 kI10
 generalize W10.drew=w11 at*
 refine wpAnyH_ready (rs:=[3]) (by kernel_rfl) (by simp) (ZQ rfl (by rfl) (fun K hK=> ?_) .nil)
 go_simp
 refine(HS.out _ (cod7.of_nb n10d)).mono ?_
 rintro e w12⟨rfl,n12⟩
 replace kX10d:=n12.block kX10d
 replace n10d:=n10d.trans n12
 refine hK.out _ _ ⟨n12.block hHeld.1,n12.block hHeld.2⟩ (fun hHeld=> ?_)
 clear hK K n12
 simp only[Act.put,sI,sZ,sS]
 refine wpAnyH_ready (rs:=[5]) (by kernel_rfl) (by simp) (ZQ rfl (by rfl) (fun K hK=> ?_) .nil)
 go_simp
 refine(HW.out _ _).mono ?_
 rintro e w13⟨rfl,n13⟩
 replace kX10d:=n13.block kX10d
 replace n10d:=n10d.trans n13
 refine hK.out _ _ ⟨n13.block hHeld.1,n13.block hHeld.2⟩ (fun hHeld=> ?_)
 clear hK K n13
 simp only[Act.put,sI,sZ,sS]
 refine Zc (i:=6) (v:= .pointer (some ⟨w7.heap.size,1,none⟩)) rfl (by kernel_rfl) (by kernel_rfl) (by kernel_rfl) (fun _ _ _ h=>h) (.inl ⟨by rfl,by intro w' hw;go_simp⟩) hHeld ?_
 simp only[Act.put,sI,sZ,sS]
 refine wpAnyH_ready (rs:=[7]) (by kernel_rfl) (by simp) (ZQ rfl (by rfl) (fun K hK=> ?_) .nil)
 refine Z0U 23 (.tmp 62) (.tmp 61) rfl ⟨w7.heap.size,1,none⟩ (.agg (xV ((h.x.set i.2.1.toNat (ZC h i a b bs).2.1).set 0 0)).toArray) rfl rfl (Kz w13 w7.heap.size 1 _ _ _ (xV ((h.x.set i.2.1.toNat (ZC h i a b bs).2.1).set 0 0)) kX10d (by rw[KX,YW,hxl.out]) (by rw[YW,hxl.out,List.size_toArray,Zv (by exact hxd.out)];omega) (Z1X _)) ?_
 rw[hC_x {(ZC h i a b bs).1 with pc:=Yv i h.pc a b} _ hxd.out hxl.out]
 obtain⟨W14,w14e⟩:∃W14,w13.setRow w7.heap.size (hC {(ZC h i a b bs).1 with pc:=Yv i h.pc a b,x:=(h.x.set i.2.1.toNat (ZC h i a b bs).2.1).set 0 0}).toArray=W14:=⟨_,rfl⟩
 have n14:Nb w7 W14:=by rw[←w14e];exact n10d.setRow (Nat.le_refl _) _
 have kX14:W14.heap[w7.heap.size]? =some (.cells (hC {(ZC h i a b bs).1 with pc:=Yv i h.pc a b,x:=(h.x.set i.2.1.toNat (ZC h i a b bs).2.1).set 0 0}).toArray 25 (0,0)):=by rw[←w14e];exact setRow_heap _ _ _ _ _ _ kX10d
 change K _ (w13.setRow w7.heap.size (hC {(ZC h i a b bs).1 with pc:=Yv i h.pc a b,x:=(h.x.set i.2.1.toNat (ZC h i a b bs).2.1).set 0 0}).toArray)
 rw[w14e]
 clear w14e
 refine hK.out _ _ ⟨n14.block kH7,n14.block kI7⟩ (fun hHeld=> ?_)
 clear hK K
 simp only[Act.put,sI,sZ,sS]
 refine wpAnyH_done (by kernel_rfl) ?_ _
 have kZ14:=n14.block kZ7
 have hM14:=hM7.nb n14
 have g14:=YF gg n14
 have hlenR:=Lib.hid (show(hC {(ZC h i a b bs).1 with pc:=Yv i h.pc a b,x:=(h.x.set i.2.1.toNat (ZC h i a b bs).2.1).set 0 0}).toArray.size=36 by rw[List.size_toArray];exact Zv (by exact hxl.out))
 have honeR:=Lib.hid (Zu (ZI {(ZC h i a b bs).1 with pc:=Yv i h.pc a b,x:=(h.x.set i.2.1.toNat (ZC h i a b bs).2.1).set 0 0}))
 clear kX10d hHeld
 go_wp2_with (first
  |refine wpList_load_row rfl 25 (.tmp 11) rfl w7.heap.size rfl 25 (hC {(ZC h i a b bs).1 with pc:=Yv i h.pc a b,x:=(h.x.set i.2.1.toNat (ZC h i a b bs).2.1).set 0 0}).toArray (0,0) _ kX14 underlying25 rfl (by rw[ZA,hlenR.out]) ?_
  |refine wpList_store_row rfl 25 (.tmp 4) (.tmp 63) rfl (w.heap.size+1) (hC {(ZC h i a b bs).1 with pc:=Yv i h.pc a b,x:=(h.x.set i.2.1.toNat (ZC h i a b bs).2.1).set 0 0}).toArray rfl rfl 25 _ kZ14 (by rw[ZA,hlenR.out]) (by rw[hlenR.out];rfl) honeR.out ?_)
 exact Z0S (h:= {(ZC h i a b bs).1 with pc:=Yv i h.pc a b,x:=(h.x.set i.2.1.toNat (ZC h i a b bs).2.1).set 0 0}) g14 hM14 kZ14 hlenR.out (by omega) _ _ rfl rfl
end Go.Proofs.YtgpdpaljbiclkaaGreatDoor
end

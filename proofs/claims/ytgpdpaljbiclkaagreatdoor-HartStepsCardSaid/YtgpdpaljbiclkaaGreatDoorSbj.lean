/-
  Proved here: what Step of the code answers; a step keeps the hart's numbers words and the memory's length; many steps as a plain function. Conditions: the hart's numbers are words; the memory is one that a call made, of at most 2^24 bytes; the table of codes holds what its text lays. ¦ what New, Len, Bytes, Put and Clone of the code answer, and what stands in memory behind them. Conditions: the memory is one that a call made, of at most 2^24 bytes. ¦ what New, fault, Fault, Load, Store and Put of the reference's memory answer. Conditions: the memory is one that a call made, of at most 2^24 bytes; places are words. ¦ what reg of the reference answers; the frame of touch. Conditions: there are 32 registers.
-/
import Derived.Test.YtgpdpaljbiclkaaGreatDoorSzz
import Derived.Test.YtgpdpaljbiclkaaGreatDoorSbi
import Derived.Test.YtgpdpaljbiclkaaGreatDoorSaa
set_option maxHeartbeats 4000000
set_option maxRecDepth 100000
section
namespace Go.Proofs.YtgpdpaljbiclkaaGreatDoor
open _root_.Go.Proofs.Tryz
open Go.RowKit
set_option linter.unusedVariables false
set_option linter.unusedSimpArgs false
theorem Z1O(h:HV)(p q:Nat)(bs:By)(hh:HOk h)(hl:bs.length≤16777216)(w:World)(hC0:Cod w)(hM:Mem 85 w p q bs):
  Calls prog 9 #[hA h,.pointer (some ⟨p,0,none⟩)] w (XO h bs p q w):=by
 by_cases hf:(fetS bs h.pc).2=0
 ·obtain⟨i,hi,hg,hr,-,-⟩:=Z5g hf
  have hf2:fetS bs h.pc=(i,0):=by rw[←hi,←hf]
  by_cases hd:(ZC h i (rg h.x i.2.2.1.toNat) (rg h.x i.2.2.2.1.toNat) bs).2.2.1=0
  ·exact step_c h i p q bs hh hl hf2 hg hr hd w hC0 hM
  ·exact step_b h i p q bs hh hl hf2 hg hr hd w hC0 hM
 ·exact step_a h p q bs hh hl hf w hC0 hM
theorem Z5k{c:Prop}[Decidable c]{x y:Int}(hx:InU x)(hy:InU y):InU (if c then x else y):=by
 split
 ·exact hx
 ·exact hy
theorem Xi:InU 0:=⟨by decide,by decide⟩
theorem one_in:InU 1:=⟨by decide,by decide⟩
theorem Z2S:(-9223372036854775808:Int)≤0∧(0:Int)<9223372036854775808:=⟨by decide,by decide⟩
theorem wb_in(op a c:Int)(qa:InU a)(qc:InU c):InU (WB op a c):=by
 have sa:=Zn _ 32 qa
 have sc:=Zn _ 32 qc
 have fa:=ZL _ 0 32 qa
 have fc:=ZL _ 0 32 qc
 unfold WB
 repeat' (with_reducible refine Z5k ?_ ?_)
 all_goals first
  |exact ZF _
  |exact Zn _ 32 (ZF _)
  |exact Z2a _
  |exact XM _ _ qa qc
  |exact KK _ _ qa qc
  |exact XN _ _ qa qc
  |exact Zn _ 32 (Ko _ _ 32 fa fc)
  |exact Ko _ _ 64 qa qc
  |exact Zn _ 32 (Kn _ _ 32 sa sc)
  |exact Kn _ _ 64 qa qc
  |exact KJ _ _ _ _ qa.1 qa.2 qc.1 qc.2
  |exact Zn _ 32 (YR _ _ sa sc)
  |exact YR _ _ qa qc
  |exact Zn _ 32 (KM _ _ fa fc)
  |exact KM _ _ qa qc
  |exact Zn _ 32 (YS _ _ sa sc)
  |exact YS _ _ qa qc
  |exact Zn _ 32 (KN _ _ fa fc)
  |exact KN _ _ qa qc
  |exact Xi
theorem vx_all(op rd rs1 rs2 im:Int)(aq rl:Bool)(pc a b:Int)(qa:InU a)(qb:InU b):InU (VX op rd rs1 rs2 im aq rl pc a b):=by
 unfold VX VB
 repeat' split
 all_goals first
  |exact ZF _
  |exact wb_in _ _ _ qa (ZF _)
  |exact wb_in _ _ _ qa qb
  |exact Xi
theorem ldB_in(op raw:Int)(qr:InU raw):InU (LdB op raw):=by
 unfold LdB
 repeat' split
 ·exact ZL _ _ _ qr
 ·exact Zn _ _ qr
 ·exact Xi
theorem Z82(i:In7)(pc a b:Int)(qa:InU a):InU (Yv i pc a b):=by
 unfold Yv TgB
 repeat' split
 all_goals first
  |exact ZF _
  |exact Jh _ 0 1 0 (ZF _).1 (ZF _).2
theorem don_in(h:HV)(i:In7)(a b:Int)(bs:By)(qa:InU a)(qb:InU b):InU (ZC h i a b bs).2.1:=by
 unfold ZC
 repeat' split
 all_goals first
  |exact vx_all _ _ _ _ _ _ _ _ _ _ qa qb
  |exact ldB_in _ _ (Kv _ _ _ _ _)
  |exact Xi
  |exact one_in
theorem Z2T(op:Int): -9223372036854775808≤Za op∧Za op<9223372036854775808:=by
 unfold Za
 repeat' split
 all_goals omega
theorem don_ok(h:HV)(i:In7)(a b:Int)(bs:By)(hh:HOk h)(qa:InU a):HOk (ZC h i a b bs).1:=by
 have q1:=Z0R i.1 i.2.2.2.2.1 a qa
 have q2:=Z2T i.1
 unfold ZC
 repeat' split
 all_goals first
  |exact hh
  |exact⟨hh.len,hh.pc,hh.x,q1,q2⟩
  |exact⟨hh.len,hh.pc,hh.x,Xi,Z2S⟩
theorem Z5l{xs:List Int}{r:Nat}{v:Int}(hx:∀y ∈ xs,InU y)(qv:InU v):∀y ∈ (xs.set r v).set 0 0,InU y:=fun y hy=>by
 rcases List.mem_or_eq_of_mem_set hy with hy|rfl
 ·rcases List.mem_or_eq_of_mem_set hy with hy|rfl
  ·exact hx y hy
  ·exact qv
 ·exact Xi
theorem Jy(h:HV)(bs:By)(hh:HOk h):HOk (stepS h bs).1:=by
 unfold stepS
 split
 ·split
  ·have qa:=YO hh.x (fetS bs h.pc).1.2.2.1.toNat
   have qb:=YO hh.x (fetS bs h.pc).1.2.2.2.1.toNat
   have k:=don_ok h (fetS bs h.pc).1 (rg h.x (fetS bs h.pc).1.2.2.1.toNat) (rg h.x (fetS bs h.pc).1.2.2.2.1.toNat) bs hh qa
   exact⟨by simp[hh.len],Z82 _ _ _ _ qa,Z5l hh.x (don_in _ _ _ _ _ qa qb),k.addr,k.size⟩
  ·exact hh
 ·exact hh
theorem Z83(op at_ s b:Int)(bs:By)(h0:0≤at_):(ZO op at_ s b bs).2.2.length=bs.length:=by
 unfold ZO
 split
 ·exact Z2v _ _ _ _ h0
 ·rfl
theorem Z2U(h:HV)(i:In7)(a b:Int)(bs:By)(qa:InU a):(ZC h i a b bs).2.2.2.length=bs.length:=by
 have q:=(Z0R i.1 i.2.2.2.2.1 a qa).1
 unfold ZC
 repeat' split
 all_goals first
  |rfl
  |exact Z83 _ _ _ _ _ q
theorem K8(h:HV)(bs:By)(hh:HOk h):(stepS h bs).2.2.length=bs.length:=by
 unfold stepS
 split
 ·have qa:=YO hh.x (fetS bs h.pc).1.2.2.1.toNat
  split
  ·exact Z2U _ _ _ _ _ qa
  ·exact Z2U _ _ _ _ _ qa
 ·rfl
def runS:Nat→Nat→HV→By→HV×Nat×Int×By
 |0,n,h,bs=>(h,n,0,bs)
 |k+1,n,h,bs=>if (stepS h bs).2.1=0 then runS k (n+1) (stepS h bs).1 (stepS h bs).2.2 else(h,n,(stepS h bs).2.1,(stepS h bs).2.2)
theorem Z5m(k n:Nat)(h:HV)(bs:By)(hh:HOk h):HOk (runS k n h bs).1∧(runS k n h bs).2.2.2.length=bs.length:=by
 induction k generalizing n h bs with
 |zero=>exact⟨hh,rfl⟩
 |succ k ih=>
  unfold runS
  split
  ·obtain⟨h1,h2⟩:=ih (n+1) _ (stepS h bs).2.2 (Jy h bs hh)
   exact⟨h1,h2.trans (K8 h bs hh)⟩
  ·exact⟨hh,K8 h bs hh⟩
theorem Z1P(h:HV)(bs:By)(hh:HOk h)(h1:(stepS h bs).2.1=0)(h2:(stepS h bs).1=h):(stepS h bs).2.2=bs:=by
 unfold stepS at h1 h2 ⊢
 split at h1
 ·rename_i hf
  rw[if_pos hf] at h2 ⊢
  split at h1
  ·rename_i hd
   rw[if_pos hd] at h2 ⊢
   have hp:=congrArg HV.pc h2
   dsimp only at hp ⊢
   generalize (fetS bs h.pc).1=i at*
   generalize rg h.x i.2.2.1.toNat=a at*
   generalize rg h.x i.2.2.2.1.toNat=b at*
   have hq:=hh.pc
   unfold InU at hq
   by_cases hb:i.1=3∨i.1=4∨(5≤i.1∧i.1≤10)
   ·unfold ZC
    rw[if_pos ⟨by unfold Zz;exact decide_eq_false (by omega),by unfold Zq;exact decide_eq_false (by omega)⟩]
   ·exfalso
    unfold Yv TgB at hp
    rw[if_neg (by unfold BrB;simp;omega),if_neg (by omega),if_neg (by omega),IntKind.wrap_u64] at hp
    omega
  ·rename_i hd
   exact absurd h1 hd
 ·rename_i hf
  exact absurd h1 hf
theorem Z3B(h:HV)(bs:By)(h1:(stepS h bs).2.1=0)(h2:(stepS h bs).1=h)(h3:(stepS h bs).2.2=bs)(k n:Nat):runS k n h bs=(h,n+k,0,bs):=by
 induction k generalizing n with
 |zero=>rfl
 |succ k ih=>
  unfold runS
  rw[if_pos h1,h2,h3,ih (n+1),Nat.add_right_comm,Nat.add_assoc]
end Go.Proofs.YtgpdpaljbiclkaaGreatDoor
end
section
namespace Go.Proofs.YtgpdpaljbiclkaaGreatDoor
open _root_.Go.Proofs.Tryz
open Go.RowKit
set_option linter.unusedVariables false
set_option linter.unusedSimpArgs false
theorem Z5n:(Tryz.prog.info? 5).map (fun i=>(i.zero,i.size,i.bytes))=some (some (.int .u8 0),1,1):=by kernel_rfl
theorem Z2g(n:Nat):madeCells (Value.int .u8 0).cells (n*1)=(Lib.byteCells (List.replicate n 0)).toArray:=by
 apply Array.ext'
 rw[show(Value.int .u8 0).cells= #[.int .u8 0] from rfl,toList_madeCells_one]
 simp[Lib.byteCells]
theorem Xb{P:Program}(w:World){ops:Array Oper}{rest:List Oper}{o:Oper}{a:Act}{Q:Exit→Act→World→Prop}
  (hg:o.guard=none) (l c:Operand) (t:TypeId) (hop:o.op=Op.makeSlice t l c)
  (e:TypeId) (i:TypeInfo) (h1:P.underlying t=some (.slice e)) (h2:P.info? e=some i) (h3:i.zero=some (.int .u8 0)) (h4:i.size=1) (h5:i.bytes=1)
  (kl kc:IntKind) (L C:Int) (n:Nat) (hl:a.eval l=.int kl L) (hc:a.eval c=.int kc C) (hL:L=(n:Int)) (hC:C=(n:Int)) (b2:n≤281474976710656)
  (hK:wpList P ops Q rest (a.put o.dst (.slice (some ⟨w.heap.size,0,none⟩) n n)) (w.alloc (.cells (Lib.byteCells (List.replicate n 0)).toArray e))):
  wpList P ops Q (o::rest) a w:=by
 refine wpList_plain hg fun K hK'=> ?_
 subst hL
 subst hC
 have hr:=run_make (P:=P) w t e i (.int .u8 0) h1 h2 h3 kl kc n n (by omega) (Int.le_refl _) (by rw[h5];omega) (by omega)
 rw[h4] at hr
 simp only[Int.toNat_natCast] at hr
 rw[Z2g] at hr
 unfold Oper.wp
 simp[execOp,hop,hl,hc,hr,Result.andThen]
 exact hK' _ _ hK
def MadeM (T:TypeId) (n:Nat) (w:World) (e:Ending) (w':World):Prop:=
 e=.returned (.pointer (some ⟨w.heap.size+1,0,none⟩))∧Mem T w' (w.heap.size+1) w.heap.size (List.replicate n 0)∧Below w.heap.size w w'∧w'.heap.size=w.heap.size+2
theorem Z1Q(T:TypeId)(n:Nat)(w:World):Mem T ((w.alloc (.cells (Lib.byteCells (List.replicate n 0)).toArray 5)).alloc (.cells #[.slice (some ⟨w.heap.size,0,none⟩) n n] T)) (w.heap.size+1) w.heap.size (List.replicate n 0):=by
 refine⟨?_,?_⟩
 ·have:=heap_alloc_new (w.alloc (.cells (Lib.byteCells (List.replicate n 0)).toArray 5)) (.cells #[.slice (some ⟨w.heap.size,0,none⟩) n n] T)
  rw[World.size_alloc] at this
  rw[List.length_replicate];exact this
 ·rw[Below.heap_alloc _ _ _ (by simp)];exact heap_alloc_new w _
theorem Z84(n:Nat)(hn:n≤16777216)(w:World):
  Calls prog 14 #[.int .i64 (n:Int)] w (MadeM 85 n w):=by
 obtain⟨i0,hi,hz0,hz1,hz2⟩:=info_parts Z5n
 have hn':(n:Int)≤16777216:=by omega
 go_enter func14,ntmps14
 go_wp2_with (refine Xb _ rfl _ _ 27 rfl 5 i0 underlying27 hi hz0 hz1 hz2 .i64 .i64 _ _ n rfl rfl rfl rfl (by omega) ?_)
 go_ret
 exact⟨rfl,Z1Q _ n w,((Below.refl _ _).alloc (Nat.le_refl _) _).alloc (by simp) _,by simp⟩
theorem Z85(p b:Nat)(bs:By)(w:World)(hM:Mem 85 w p b bs):
  Calls prog 36 #[.pointer (some ⟨p,0,none⟩)] w fun e w'=>e=.returned (.int .i64 bs.length)∧w=w':=by
 have hc:=hM.head
 go_enter func36,ntmps36
 go_wp2_with fail
 refine(X0 p b bs _ hM).mono ?_
 rintro e w'⟨rfl,rfl⟩
 go_wp2_with fail
 go_ret
 exact⟨rfl,rfl⟩
theorem Z0V{α:Type}(L cs:List α)(h:cs.length=L.length):splice L 0 cs=cs:=by simp[splice,h]
def Z0W (bs:By) (at_ k:Nat) (w:World) (e:Ending) (w':World):Prop:=
 e=.returned (.tuple #[.slice (some ⟨w.heap.size,0,none⟩) k k,.int .i64 0])∧w'.heap[w.heap.size]? =some (.cells (Lib.byteCells ((bs.drop at_).take k)).toArray 5 (0,0))∧Below w.heap.size w w'
theorem Z1R(b a j:Nat):(⟨b,a,none⟩:Addr).add j=⟨b,a+j,none⟩:=by unfold Addr.add;split<;>simp_all
theorem K9(l:By):∀v ∈ Lib.byteCells l,v.oneCell'=true:=by
 intro v hv
 obtain⟨c,-,rfl⟩:=List.mem_map.1 hv
 rfl
theorem Z5o{w:World}{b:Nat}{bs:By}(hb:w.heap[b]? =some (.cells (Lib.byteCells bs).toArray 5 (0,0)))(at_ k:Nat):∀j v,(Lib.byteCells ((bs.drop at_).take k))[j]? =some v→w.cell? ((⟨b,at_,none⟩:Addr).add j)=some v:=by
 intro j v hv
 rw[Z1R,cell_of_row _ _ _ _ _ _ hb]
 unfold Lib.byteCells at hv ⊢
 rw[List.getElem?_map,List.getElem?_take] at hv
 split at hv
 ·rw[List.getElem?_drop] at hv
  simpa using hv
 ·cases hv
theorem Z5p(p b:Nat)(bs:By)(at_ k:Nat)(h:at_+k≤bs.length)(hl:bs.length≤16777216)(w:World)(hM:Mem 85 w p b bs):
  Calls prog 35 #[.pointer (some ⟨p,0,none⟩),.int .u64 (at_:Int),.int .i64 (k:Int)] w (Z0W bs at_ k w):=by
 obtain⟨i0,hi,hz0,hz1,hz2⟩:=info_parts Z5n
 have HN:=Lib.hid (Z0t p b bs at_ k h hl w hM)
 unfold Ku at HN
 have hlt:=hM.lt.2
 have hcl:=Lib.hid (show(Lib.byteCells ((bs.drop at_).take k)).length=k by rw[Lib.byteCells_length];simp;omega)
 have hsrc:=Lib.hid (Z5o (w:=w.alloc (.cells (Lib.byteCells (List.replicate k 0)).toArray 5)) (bs:=bs) ((Below.heap_alloc _ _ _ hlt).trans hM.2) at_ k)
 have hone:=Lib.hid (K9 ((bs.drop at_).take k))
 have hzl:=Lib.hid (show(Lib.byteCells (List.replicate k 0)).length=k by rw[Lib.byteCells_length];simp)
 have hfin:=Lib.hid (show splice (Lib.byteCells (List.replicate k 0)) 0 (Lib.byteCells ((bs.drop at_).take k))=Lib.byteCells ((bs.drop at_).take k) from Z0V _ _ (by rw[hcl.out,hzl.out]))
 unfold Z0W
 generalize Lib.byteCells ((bs.drop at_).take k)=cs at*
 go_enter func35,ntmps35
 go_wp2_with fail
 refine(X0 p b bs _ hM).mono ?_
 rintro e w'⟨rfl,rfl⟩
 go_wp2_with fail
 refine(HN.out).mono ?_
 rintro e w'⟨A,hA0,rfl,rfl⟩
 have hA:=Lib.hid hA0
 clear hA0
 go_wp2_with (first
  |refine Xb _ rfl _ _ 27 rfl 5 i0 underlying27 hi hz0 hz1 hz2 .i64 .i64 _ _ k rfl rfl rfl rfl (by omega) ?_
  |(refine wpList_copy_splice rfl (.tmp 29) (.tmp 30) 27 27 rfl 5 underlying27 (by kernel_rfl) _ _ _ _ _ _ rfl rfl w.heap.size 0 (Lib.byteCells (List.replicate k 0)) 5 (heap_alloc_new w _) cs (by rw[hcl.out];exact(Nat.min_self k).symm) (fun h0=>⟨rfl,_,hA.out (by rw[hcl.out] at h0;exact h0),hsrc.out⟩) (by rw[hcl.out,hzl.out];omega) hone.out w.heap.size w ((Below.refl _ _).alloc (Nat.le_refl _) _) (Nat.le_refl _) ?_;intro w2 HG2 hB2))
 go_ret2
 exact⟨rfl,by have:=HG2.out;rw[hfin.out] at this;exact this,hB2⟩
theorem Z0X(w:World)(g:Nat)(cs:Array Value):w.grownBy (w.setRow g cs) (some g):=
 ⟨rfl,rfl,rfl,by simp[World.setRow],fun i _ hi=>setRow_other w g i cs (fun e=>hi (by rw[e]))⟩
theorem Z3C(bs xs:By)(a:Nat):(Lib.byteCells bs).toArray.toList.take a++(Lib.byteCells xs++(Lib.byteCells bs).toArray.toList.drop (a+(Lib.byteCells xs).length))=Lib.byteCells (lay bs a xs):=by
 unfold lay Lib.byteCells
 simp
theorem Z86{T:TypeId}{w:World}{p b:Nat}{bs ys:By}(h:Mem T w p b bs)(hT:T≠5)(hl:ys.length=bs.length):Mem T (w.setRow b (Lib.byteCells ys).toArray) p b ys:=
 ⟨by rw[hl];exact(setRow_other w b p _ (h.ne hT)).trans h.1,setRow_heap w b _ _ 5 _ h.2⟩
def Src (w:World) (A:Option Addr) (xs:By):Prop:=0<xs.length→∃ad,A=some ad∧∀j v,(Lib.byteCells xs)[j]? =some v→w.cell? (ad.add j)=some v
theorem put_ok(p b:Nat)(bs xs:By)(at_:Nat)(A:Option Addr)(cap:Nat)(h:at_+xs.length≤bs.length)(hl:bs.length≤16777216)(w:World)(hM:Mem 85 w p b bs)(hS:Src w A xs):
  Calls prog 7 #[.pointer (some ⟨p,0,none⟩),.int .u64 (at_:Int),.slice A xs.length cap] w fun e w'=>e=.returned (.int .i64 0)∧Mem 85 w' p b (lay bs at_ xs)∧w.grownBy w' (some b):=by
 have HN:=Lib.hid (Z0t p b bs at_ xs.length h hl w hM)
 unfold Ku at HN
 have hxl:=Lib.hid (Lib.byteCells_length xs)
 by_cases h0:xs.length=0
 ·have e0:xs=[]:=List.eq_nil_of_length_eq_zero h0
  subst e0
  clear hS hxl
  go_enter func7,ntmps7
  go_wp2_with fail
  refine(HN.out).mono ?_
  rintro e w'⟨A',hA0,rfl,rfl⟩
  clear hA0
  go_wp2_with (refine wpList_copy_nothing rfl (.tmp 20) (.tmp 21) 27 27 rfl 5 underlying27 (by kernel_rfl) _ _ _ _ _ _ rfl rfl rfl ?_)
  go_ret
  exact⟨rfl,by rw[Jn];exact hM,World.grownBy.refl w _⟩
 ·obtain⟨ad,rfl,hsrc0⟩:=hS (by omega)
  have hsrc:=Lib.hid hsrc0
  have hone:=Lib.hid (K9 xs)
  have hM':=Lib.hid (Z86 (ys:=lay bs at_ xs) hM (by decide) (Jm bs at_ xs h))
  have hcells:=Lib.hid (Z3C bs xs at_)
  have hfit:=Lib.hid (show at_+(Lib.byteCells xs).length≤(Lib.byteCells bs).toArray.size by rw[hxl.out];simp[Lib.byteCells_length];exact h)
  clear hsrc0
  go_enter func7,ntmps7
  go_wp2_with fail
  refine(HN.out).mono ?_
  rintro e w'⟨A',hA0,rfl,rfl⟩
  obtain rfl:=hA0 (by omega)
  clear hA0
  go_wp2_with (refine wpList_copy_own rfl (.tmp 20) (.tmp 21) 27 27 rfl 5 underlying27 (by kernel_rfl) b at_ _ _ ad _ _ rfl rfl _ 5 hM.2 (Lib.byteCells xs) (by rw[hxl.out];exact(Nat.min_self _).symm) hsrc.out hfit.out hone.out ?_;rw[hcells.out])
  go_ret
  exact⟨rfl,hM'.out,Z0X _ _ _⟩
theorem put_no(p b:Nat)(bs xs:By)(at_:Int)(A:Option Addr)(cap:Nat)(a0:0≤at_)(a1:at_<18446744073709551616)(x1:xs.length≤9223372036854775807)(h:(bs.length:Int)<at_+xs.length)(hl:bs.length≤16777216)(w:World)(hM:Mem 85 w p b bs):
  Calls prog 7 #[.pointer (some ⟨p,0,none⟩),.int .u64 at_,.slice A xs.length cap] w fun e w'=>e=.returned (.int .i64 50)∧w=w':=by
 have HN:=Lib.hid (Z2u p b bs at_ xs.length a0 a1 x1 h hl w hM)
 go_enter func7,ntmps7
 go_wp2_with fail
 refine(HN.out).mono ?_
 rintro e w'⟨rfl,rfl⟩
 go_wp2_with fail
 go_ret
 exact⟨rfl,rfl⟩
end Go.Proofs.YtgpdpaljbiclkaaGreatDoor
end
section
namespace Go.Proofs.YtgpdpaljbiclkaaGreatDoor
open _root_.Go.Proofs.Tryz
open Go.RowKit
set_option linter.unusedVariables false
set_option linter.unusedSimpArgs false
theorem Z5q(n:Nat)(hn:n≤16777216)(w:World):
  Calls prog 15 #[.int .i64 (n:Int)] w (MadeM 62 n w):=by
 obtain⟨i0,hi,hz0,hz1,hz2⟩:=info_parts Z5n
 have hn':(n:Int)≤16777216:=by omega
 go_enter func15,ntmps15
 go_wp2_with (refine Xb _ rfl _ _ 27 rfl 5 i0 underlying27 hi hz0 hz1 hz2 .i64 .i64 _ _ n rfl rfl rfl rfl (by omega) ?_)
 go_ret
 exact⟨rfl,Z1Q _ n w,((Below.refl _ _).alloc (Nat.le_refl _) _).alloc (by simp) _,by simp⟩
theorem Z0Y{n:Nat}{a k:Int}(h:(n:Int)<a+k):fltP n a k=50:=if_pos h
theorem KQ{n:Nat}{a k:Int}(h:¬(n:Int)<a+k):fltP n a k=0:=if_neg h
theorem J9(p b:Nat)(bs:By)(at_:Int)(k:Nat)(a0:0≤at_)(a1:at_<18446744073709551616)(k1:k≤9223372036854775807)(hl:bs.length≤16777216)(w:World)(hM:Mem 62 w p b bs):
  Calls prog 20 #[.pointer (some ⟨p,0,none⟩),.int .u64 at_,.int .i64 (k:Int)] w fun e w'=>e=.returned (.int .i64 (fltP bs.length at_ k))∧w=w':=by
 have hc:=hM.head
 by_cases h1:(bs.length:Int)<at_
 ·rw[Z0Y (by omega)]
  go_enter func20,ntmps20
  go_wp2_with fail
  go_ret
  exact⟨rfl,rfl⟩
 ·by_cases h2:(bs.length:Int)-at_<k
  ·rw[Z0Y (by omega)]
   go_enter func20,ntmps20
   go_wp2_with fail
   go_ret
   exact⟨rfl,rfl⟩
  ·rw[KQ (by omega)]
   go_enter func20,ntmps20
   go_wp2_with fail
   go_ret
   exact⟨rfl,rfl⟩
theorem XP(p b:Nat)(bs:By)(at_ s:Int)(a0:0≤at_)(a1:at_<18446744073709551616)(hl:bs.length≤16777216)(w:World)(hM:Mem 62 w p b bs):
  Calls prog 43 #[.pointer (some ⟨p,0,none⟩),.int .u64 at_,.int .i64 s] w fun e w'=>e=.returned (.int .i64 (flt bs.length at_ s))∧w=w':=by
 by_cases hs:s=1∨s=2∨s=4∨s=8
 ·by_cases h2:at_ % s=0
  ·rw[Ky hs h2]
   obtain⟨k,rfl⟩:∃k:Nat,s=(k:Int):=⟨s.toNat,by omega⟩
   have HP:=Lib.hid (J9 p b bs at_ k a0 a1 (by omega) hl w hM)
   have e:k=1∨k=2∨k=4∨k=8:=by omega
   generalize fltP bs.length at_ k=E at*
   clear hs
   rcases e with rfl|rfl|rfl|rfl
   all_goals
    go_enter func43,ntmps43
    go_wp2_with fail
    refine(HP.out).mono ?_
    rintro e w'⟨rfl,rfl⟩
    go_wp2_with fail
    go_ret
    exact⟨rfl,rfl⟩
  ·rw[Z0a hs h2]
   rcases hs with rfl|rfl|rfl|rfl
   ·omega
   all_goals
    go_enter func43,ntmps43
    go_wp2_with fail
    go_ret
    exact⟨rfl,rfl⟩
 ·rw[Z14 hs]
  have h1:(s !=1)=true:=bne_iff_ne.2 (by omega)
  have h2:(s !=2)=true:=bne_iff_ne.2 (by omega)
  have h4:(s !=4)=true:=bne_iff_ne.2 (by omega)
  have h8:(s !=8)=true:=bne_iff_ne.2 (by omega)
  clear hs
  go_enter func43,ntmps43
  go_wp2_with fail
  go_ret
  exact⟨rfl,rfl⟩
theorem Z5r(v k:Nat):(((v / 256 ^ k:Nat):Int)) % 256=((UInt8.ofNat (v / 256 ^ k % 256)).toNat:Int):=by
 have h1:(UInt8.ofNat (v / 256 ^ k % 256)).toNat=v / 256 ^ k % 256:=by simp
 rw[h1]
 omega
theorem Z5s(v k:Nat):(((v / 256 ^ k:Nat):Int)) / 256=((v / 256 ^ (k+1):Nat):Int):=by
 have e:v / 256 ^ (k+1)=v / 256 ^ k / 256:=by rw[Nat.pow_succ,Nat.div_div_eq_div_mul]
 rw[e]
 omega
theorem Z3D(p b:Nat)(bs:By)(at_ s v:Nat)(hs:(s:Int)=1∨(s:Int)=2∨(s:Int)=4∨(s:Int)=8)(h0:(at_:Int) % (s:Int)=0)(h:at_+s≤bs.length)(v1:v<18446744073709551616)(hl:bs.length≤16777216)(w:World)(hM:Mem 62 w p b bs):
  Calls prog 18 #[.pointer (some ⟨p,0,none⟩),.int .u64 (at_:Int),.int .i64 (s:Int),.int .u64 (v:Int)] w fun e w'=>e=.returned (.int .i64 0)∧Mem 62 w' p b (lay bs at_ (leB s v))∧w.grownBy w' (some b):=by
 have HF:=XP p b bs (at_:Int) (s:Int) (by omega) (by omega) hl w hM
 rw[Ky hs h0,KQ (by omega)] at HF
 replace HF:=Lib.hid HF
 have hs8:s≤8:=by omega
 have hs1:1≤s:=by omega
 clear hs h0
 go_enter func18,ntmps18
 go_wp2_with fail
 refine(HF.out).mono ?_
 rintro e w'⟨rfl,rfl⟩
 clear HF
 go_wp2_with fail
 go_loopw [3,10] (fun x i wr=>∃k:Nat,k≤s∧i=.int .i64 k∧x=.int .u64 ((v / 256 ^ k:Nat):Int)∧Mem 62 wr p b (lay bs at_ (leB k v))∧w.grownBy wr (some b)) (fun _ i _=>s-(intOf i).toNat)
 case atStart=>exact⟨0,Nat.zero_le _,rfl,by simp,by rw[show leB 0 v=[] from rfl,Jn];exact hM,World.grownBy.refl w _⟩
 case round=>
  obtain⟨k,hk,rfl,rfl,hMr,hg⟩:=hrel
  by_cases hlt:k<s
  ·have hf:=hMr.frozen (at_+k)
   have hd:=hMr.head
   have hll:=JD bs at_ k v (by omega)
   obtain⟨x,hc⟩:∃x,wr.cell? ⟨b,at_+k,none⟩=some x:=⟨_,hMr.byte (at_+k) (by omega)⟩
   have hset:=Lib.hid (hMr.set (by decide) (at_+k) (UInt8.ofNat (v / 256 ^ k % 256)))
   rw[←Z16 bs at_ k v (by omega),←Z5r] at hset
   have hx:=Lib.hid (Z5s v k)
   have hq:v / 256 ^ k<18446744073709551616:=Nat.lt_of_le_of_lt (Nat.div_le_self _ _) v1
   rw[hll] at hd
   generalize v / 256 ^ k=Q at*
   clear hMr hll
   go_wp2
   go_roundw
   case rel=>exact⟨k+1,by omega,by go_num,by rw[hx.out],hset.out,XW hg (KT _ _ _ _)⟩
   case measure=>simp[intOf];omega
  ·obtain rfl:k=s:=by omega
   clear hk hlt
   go_wp2
   go_ret
   exact⟨rfl,hMr,hg⟩
theorem YG(p b:Nat)(bs:By)(at_ s v:Int)(a0:0≤at_)(a1:at_<18446744073709551616)(v0:0≤v)(v1:v<18446744073709551616)(hl:bs.length≤16777216)(w:World)(hM:Mem 62 w p b bs):
  Calls prog 18 #[.pointer (some ⟨p,0,none⟩),.int .u64 at_,.int .i64 s,.int .u64 v] w fun e w'=>e=.returned (.int .i64 (flt bs.length at_ s))∧Mem 62 w' p b (stB bs at_ s v)∧w.grownBy w' (some b):=by
 by_cases h:flt bs.length at_ s=0
 ·obtain⟨h1,h2,h3⟩:=KU h
  unfold stB
  rw[if_pos h,h]
  obtain⟨k,rfl⟩:∃k:Nat,s=(k:Int):=⟨s.toNat,by omega⟩
  obtain⟨a,rfl⟩:∃a:Nat,at_=(a:Int):=⟨at_.toNat,by omega⟩
  obtain⟨u,rfl⟩:∃u:Nat,v=(u:Int):=⟨v.toNat,by omega⟩
  exact Z3D p b bs a k u h1 h2 (by omega) (by omega) hl w hM
 ·have HN:=Lib.hid (XP p b bs at_ s a0 a1 hl w hM)
  have hv:(flt bs.length at_ s !=0)=true:=bne_iff_ne.2 h
  unfold stB
  rw[if_neg h]
  generalize flt bs.length at_ s=E at*
  clear h
  go_enter func18,ntmps18
  go_wp2_with fail
  refine(HN.out).mono ?_
  rintro e w'⟨rfl,rfl⟩
  go_wp2_with fail
  go_ret
  exact⟨rfl,hM,World.grownBy.refl _ _⟩
theorem Z2h(bs:By)(a k:Nat)(h:a<bs.length):numAt bs a (k+1)=bs[a].toNat+256*numAt bs (a+1) k:=by
 unfold numAt
 rw[List.drop_eq_getElem_cons h,List.take_succ_cons]
 rfl
theorem Z87(bs:By)(a j s:Nat)(h:a+s≤bs.length)(hj:j<s)(hs:s≤8):(256:Int)*(numAt bs (a+(j+1)) (s-(j+1)):Int)+(bs[a+j].toNat:Int)=(numAt bs (a+j) (s-j):Int):=by
 have e:s-j=(s-(j+1))+1:=by omega
 rw[e,Z2h bs (a+j) _ (by omega),Nat.add_assoc a j 1]
 generalize numAt bs (a+(j+1)) (s-(j+1))=X
 omega
theorem Z5t(p b:Nat)(bs:By)(at_ s:Nat)(hs:(s:Int)=1∨(s:Int)=2∨(s:Int)=4∨(s:Int)=8)(h0:(at_:Int) % (s:Int)=0)(h:at_+s≤bs.length)(hl:bs.length≤16777216)(w:World)(hM:Mem 62 w p b bs):
  Calls prog 27 #[.pointer (some ⟨p,0,none⟩),.int .u64 (at_:Int),.int .i64 (s:Int)] w fun e w'=>e=.returned (.tuple #[.int .u64 (numAt bs at_ s:Int),.int .i64 0])∧w=w':=by
 have HF:=XP p b bs (at_:Int) (s:Int) (by omega) (by omega) hl w hM
 rw[Ky hs h0,KQ (by omega)] at HF
 replace HF:=Lib.hid HF
 have hs8:s≤8:=by omega
 have hs1:1≤s:=by omega
 have hd:=hM.head
 clear hs h0
 go_enter func27,ntmps27
 go_wp2_with fail
 refine(HF.out).mono ?_
 rintro e w'⟨rfl,rfl⟩
 clear HF
 go_wp2_with fail
 go_loopw [9,10] (fun x i wr=>∃k:Nat,k≤s∧i=.int .i64 ((k:Int)-1)∧x=.int .u64 (numAt bs (at_+k) (s-k):Int)∧w=wr) (fun _ i _=>(intOf i+1).toNat)
 case atStart=>exact⟨s,Nat.le_refl _,rfl,by simp[JB],rfl⟩
 case round=>
  obtain⟨k,hk,rfl,rfl,rfl⟩:=hrel
  by_cases hlt:0<k
  ·obtain⟨j,rfl⟩:∃j,k=j+1:=⟨k-1,by omega⟩
   have hc:=hM.byte (at_+j) (by omega)
   have hx:=Lib.hid (Z87 bs at_ j s h (by omega) hs8)
   have hb1:=JC bs (at_+j) (s-j) (by omega)
   have hb2:bs[at_+j].toNat<256:=UInt8.toNat_lt _
   generalize bs[at_+j].toNat=c at*
   generalize numAt bs (at_+(j+1)) (s-(j+1))=X at*
   have hX:256*(X:Int)+c<18446744073709551616:=by rw[hx.out];omega
   clear hb1
   go_wp2
   go_roundw
   case rel=>exact⟨j,by omega,by go_num,by rw[←hx.out],trivial⟩
   case measure=>simp[intOf]<;>omega
  ·obtain rfl:k=0:=by omega
   clear hk hlt
   go_wp2
   go_ret2
   exact⟨rfl,rfl⟩
theorem Y8(p b:Nat)(bs:By)(at_ s:Int)(a0:0≤at_)(a1:at_<18446744073709551616)(hl:bs.length≤16777216)(w:World)(hM:Mem 62 w p b bs):
  Calls prog 27 #[.pointer (some ⟨p,0,none⟩),.int .u64 at_,.int .i64 s] w fun e w'=>e=.returned (.tuple #[.int .u64 (ldV bs at_ s),.int .i64 (flt bs.length at_ s)])∧w=w':=by
 by_cases h:flt bs.length at_ s=0
 ·obtain⟨h1,h2,h3⟩:=KU h
  unfold ldV
  rw[if_pos h,h]
  obtain⟨k,rfl⟩:∃k:Nat,s=(k:Int):=⟨s.toNat,by omega⟩
  obtain⟨a,rfl⟩:∃a:Nat,at_=(a:Int):=⟨at_.toNat,by omega⟩
  exact Z5t p b bs a k h1 h2 (by omega) hl w hM
 ·have HN:=Lib.hid (XP p b bs at_ s a0 a1 hl w hM)
  have hv:(flt bs.length at_ s !=0)=true:=bne_iff_ne.2 h
  unfold ldV
  rw[if_neg h]
  generalize flt bs.length at_ s=E at*
  clear h
  go_enter func27,ntmps27
  go_wp2_with fail
  refine(HN.out).mono ?_
  rintro e w'⟨rfl,rfl⟩
  go_wp2_with fail
  go_ret2
  exact⟨rfl,rfl⟩
theorem Z5u(bs xs:By)(a k:Nat)(h:a+k<bs.length)(hk:k<xs.length):lay bs a (xs.take (k+1))=(lay bs a (xs.take k)).set (a+k) xs[k]:=by
 have e:xs.take (k+1)=xs.take k++[xs[k]]:=by rw[List.take_add_one,List.getElem?_eq_getElem hk];rfl
 have hl:(xs.take k).length=k:=by simp;omega
 rw[e,Z13 bs a _ _ (by rw[hl];exact h),hl]
theorem Src.cell{w w':World}{A:Option Addr}{xs:By}(h:Src w A xs){b:Nat}(hg:w.grownBy w' (some b))(hb:∀ad,A=some ad→ad.block≠b)(k:Nat)(hk:k<xs.length):∃ad,A=some ad∧w'.cell? (ad.add k)=some (.int .u8 (xs[k].toNat:Int)):=by
 obtain⟨ad,hA,hc⟩:=h (by omega)
 have h1:=hc k (.int .u8 (xs[k].toNat:Int)) (by unfold Lib.byteCells;rw[List.getElem?_map,List.getElem?_eq_getElem hk];rfl)
 have h2:(ad.add k).block=ad.block:=by unfold Addr.add;split<;>rfl
 refine⟨ad,hA,(World.cell?_of_block (hg.block _ ?_ ?_)).trans h1⟩
 ·exact World.block_lt_of_cell? w _ h1
 ·intro e;injection e with e;exact hb ad hA (h2.symm.trans e)
theorem Z88(p b:Nat)(bs xs:By)(at_:Int)(A:Option Addr)(cap:Nat)(a0:0≤at_)(a1:at_<18446744073709551616)(x1:xs.length≤9223372036854775807)(h:(bs.length:Int)<at_+xs.length)(hl:bs.length≤16777216)(w:World)(hM:Mem 62 w p b bs):
  Calls prog 8 #[.pointer (some ⟨p,0,none⟩),.int .u64 at_,.slice A xs.length cap] w fun e w'=>e=.returned (.int .i64 50)∧w=w':=by
 have HF:=J9 p b bs at_ xs.length a0 a1 x1 hl w hM
 rw[Z0Y h] at HF
 replace HF:=Lib.hid HF
 clear h
 go_enter func8,ntmps8
 go_wp2_with fail
 refine(HF.out).mono ?_
 rintro e w'⟨rfl,rfl⟩
 go_wp2_with fail
 go_ret
 exact⟨rfl,rfl⟩
def putB (bs:By) (at_:Int) (xs:By):By:=if (bs.length:Int)<at_+xs.length then bs else lay bs at_.toNat xs
theorem Z5v(bs xs:By)(at_:Int)(a0:0≤at_):(putB bs at_ xs).length=bs.length:=by
 unfold putB
 split
 ·rfl
 ·exact Jm _ _ _ (by omega)
end Go.Proofs.YtgpdpaljbiclkaaGreatDoor
end
section
namespace Go.Proofs.YtgpdpaljbiclkaaGreatDoor
open _root_.Go.Proofs.Tryz
open Go.RowKit
set_option linter.unusedVariables false
set_option linter.unusedSimpArgs false
theorem YM(h:HV)(hl:h.x.length=32)(r:Int)(r0:0≤r)(r1:r<32)(w:World):
  Calls prog 29 #[.agg (hC h).toArray,.int .i64 r] w fun e w'=>e=.returned (.int .u64 (rg h.x r.toNat))∧Nb w w':=by
 obtain⟨k,rfl⟩:=Int.eq_ofNat_of_zero_le r0
 by_cases h0:k=0
 ·subst h0
  have e:rg h.x (Int.toNat ((0:Nat):Int))=0:=by
   unfold rg
   rw[List.getD_eq_getElem?_getD,show Int.toNat ((0:Nat):Int)=0 from rfl,List.getElem?_set_self (by omega)]
   rfl
  rw[e]
  clear e
  go_enter func29,ntmps29
  go_wp2_with fail
  go_ret
  exact⟨rfl,(Nb.refl _).alloc _⟩
 ·have e:rg h.x (Int.toNat (k:Int))=h.x.getD k 0:=by
   unfold rg
   rw[List.getD_eq_getElem?_getD,List.getD_eq_getElem?_getD,Int.toNat_natCast,List.getElem?_set_ne (by omega)]
  rw[e]
  clear e
  have hx:h.x[k]? =some (h.x.getD k 0):=by rw[List.getD_eq_getElem?_getD,List.getElem?_eq_getElem (by omega)];rfl
  generalize h.x.getD k 0=v at*
  have hk0:(0:Int)<(k:Int):=by omega
  have hkb:((k:Int)==0)=false:=nB (by omega)
  clear h0 r0
  go_enter func29,ntmps29
  go_upto_region 1 with(fail)
  obtain⟨W1,w1e⟩:∃W1,w.alloc (Obj.cells (hC h).toArray 38)=W1:=⟨_,rfl⟩
  have n1:Nb w W1:=by rw[←w1e];exact(Nb.refl _).alloc _
  have kH:W1.heap[w.heap.size]? =some (.cells (hC h).toArray 38 (0,0)):=by rw[←w1e];exact Zd _ _ rfl
  have c:W1.cell? ⟨w.heap.size,1+k,none⟩=some (.int .u64 v):=by
   have hl:k<h.x.length:=(List.getElem?_eq_some_iff.1 hx).1
   rw[cell_of_row _ _ _ _ _ _ kH,List.getElem?_toArray,Nat.add_comm]
   unfold hC
   rw[List.getElem?_cons_succ,List.getElem?_append_left (by rw[YW];exact hl)]
   unfold xV
   rw[List.getElem?_map,hx]
   rfl
  rw[w1e]
  clear w1e hx kH
  go_wp2_with fail
  go_ret
  exact⟨rfl,n1⟩
theorem Zk:(Tryz.prog.info? 38).map (·.size)=some 36:=by kernel_rfl
theorem Xz(g:Nat)(cs:Array Value)(t:TypeId)(fr:Nat×Nat)(w:World)(hg:w.heap[g]? =some (.cells cs t fr))(hs:cs.size=36):(loadVar 38 ⟨g,0,none⟩).run prog w=.ok (.agg cs) w:=
 run_loadVar_row _ g t 38 cs fr _ hg underlying38 rfl (by rw[Zk,hs])
theorem ld7(g:Nat)(cs:Array Value)(t:TypeId)(fr:Nat×Nat)(w:World)(hg:w.heap[g]? =some (.cells cs t fr))(hs:cs.size=7:=by rfl):(loadVar 50 ⟨g,0,none⟩).run prog w=.ok (.agg cs) w:=
 run_loadVar_row _ g t 50 cs fr _ hg underlying50 rfl (by rw[X3,hs])
theorem ZG{w:World}{g:Nat}{h:HV}(kH:w.heap[g]? =some (.cells (hC h).toArray 38 (0,0)))(k:h.x.length=32):
  w.cell? ⟨g,0,none⟩=some (.int .u64 h.pc)∧w.cell? ⟨g,33,none⟩=some (.bool h.held)∧w.cell? ⟨g,34,none⟩=some (.int .u64 h.addr)∧w.cell? ⟨g,35,none⟩=some (.int .i64 h.size):=by
 have hx:(xV h.x).length=32:=by rw[YW];exact k
 refine⟨?_,?_,?_,?_⟩<;>rw[cell_of_row _ _ _ _ _ _ kH,List.getElem?_toArray]<;>unfold hC
 ·rfl
 ·rw[List.getElem?_cons_succ,List.getElem?_append_right (by omega),hx];rfl
 ·rw[List.getElem?_cons_succ,List.getElem?_append_right (by omega),hx];rfl
 ·rw[List.getElem?_cons_succ,List.getElem?_append_right (by omega),hx];rfl
theorem ZJ{w W:World}{q:Nat}(h:w.grownBy W (some q)){B:Nat}(hB:w.heap.size≤B)(k:Nat)(v:Value):w.grownBy (W.setCell ⟨B,k,none⟩ v) (some q):=
 ⟨h.os,h.tape,h.output,Nat.le_trans h.size (by simp[World.setCell]),fun i hi hr=>(Below.heap_setCell _ _ _ i (by show i≠B;omega)).trans (h.block i hi hr)⟩
theorem X4:InU 0:=⟨by decide,by decide⟩
theorem cg_in(op old b:Int)(qo:InU old)(qb:InU b):InU (CgB op old b):=by
 have so:=Zn old 32 qo
 have sb:=Zn b 32 qb
 have fo:=ZL old 0 32 qo
 have fb:=ZL b 0 32 qb
 unfold CgB
 repeat' (with_reducible refine Z5k ?_ ?_)
 all_goals first
  |exact ZF _
  |exact XN _ _ qo qb
  |exact XM _ _ qo qb
  |exact KK _ _ qo qb
  |exact YV _ _ _ so sb
  |exact YV _ _ _ sb so
  |exact YV _ _ _ qo qb
  |exact YV _ _ _ qb qo
  |exact J7 _ _ fo fb
  |exact J8 _ _ fo fb
  |exact J7 _ _ qo qb
  |exact J8 _ _ qo qb
  |exact qb
theorem Kw(op old b:Int)(qb:InU b)(qo:InU old):InU (StB op old b):=by
 unfold StB
 split
 ·exact ZL _ _ _ (cg_in op old b qo qb)
 ·exact X4
theorem Z89{fn:Func}{p u v:Tmp}{ty:TypeId}{P:Program}(h:fn.results= #[.tmp u,.cell p ty,.tmp v])(tmps:Array Value)(w:World)(g:Nat)(cs:Array Value)
  (hp:tmps.getD p undef=.pointer (some ⟨g,0,none⟩)) (hl:(loadVar ty ⟨g,0,none⟩).run P w=.ok (.agg cs) w):
  (results fn tmps).run P w=.ok (.tuple #[tmps.getD u undef,.agg cs,tmps.getD v undef]) w:=by
 have e:(asAddr (.pointer (some ⟨g,0,none⟩))).run P w=.ok ⟨g,0,none⟩ w:=rfl
 simp only[results,h]
 simp only[Array.getD_eq_getD_getElem?] at hp
 simp[Sem.run_bind,Result.andThen,hp,e,hl]
def Kx (V:Int) (H:HV) (E:Int) (B:By) (p q:Nat) (w:World) (e:Ending) (w':World):Prop:=
 e=.returned (.tuple #[.int .u64 V,.agg (hC H).toArray,.int .i64 E])∧Mem 62 w' p q B∧w.grownBy w' (some q)
theorem Yq{h:HV}{w W1:World}{p q g:Nat}{bs:By}{old:Array Value}(hg:w.grownBy W1 (some q))(hM:Mem 62 W1 p q bs)(k0:W1.heap[g]? =some (.cells old 38 (0,0)))(hlen:(hC h).toArray.size=36)(hgw:w.heap.size≤g)
  (tmps:Array Value) (v E:Int) (hp:tmps.getD 9 undef=.pointer (some ⟨g,0,none⟩)) (h11:tmps.getD 8 undef=.int .u64 v) (h12:tmps.getD 10 undef=.int .i64 E):
  bodyPost prog Tryz.f31 (fun e w'=>e=.returned (.tuple #[.int .u64 v,.agg (hC h).toArray,.int .i64 E])∧Mem 62 w' p q bs∧w.grownBy w' (some q)) Exit.ret {tmps:=tmps,defers:=[]} (W1.setRow g (hC h).toArray):=by
 have k2:=setRow_heap W1 g _ (hC h).toArray 38 _ k0
 have hpg:p≠g:=by
  rintro rfl
  have:=hM.1.symm.trans k0
  simp at this
 have hqg:q≠g:=by
  rintro rfl
  have:=hM.2.symm.trans k0
  simp at this
 refine bodyPost_ret (Z89 rfl _ _ g _ hp (Xz g _ _ _ _ k2 hlen)) rfl ⟨by rw[h11,h12],⟨(setRow_other W1 g p _ hpg).trans hM.1,(setRow_other W1 g q _ hqg).trans hM.2⟩,?_⟩
 exact⟨hg.os,hg.tape,hg.output,Nat.le_trans hg.size (by simp[World.setRow]),fun k hk hr=>(setRow_other W1 g k _ (by omega)).trans (hg.block k hk hr)⟩
end Go.Proofs.YtgpdpaljbiclkaaGreatDoor
end

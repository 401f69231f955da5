/-
  Proved here: plain facts on bytes as numbers, the lowest first. Conditions: none. ¦ words of memory: a memory object and its bytes in blocks of their own; what made, part and number of the code answer. Conditions: the memory is one that a call made. ¦ a hart's registers as values; what reading and written of the code answer. Conditions: there are 32 registers. ¦ what reading, the closure that it makes, and branch of the code answer. Conditions: there are 32 registers. ¦ what made, part and number of the code answer. Conditions: the memory is one that a call made, of at most 2^24 bytes. ¦ what Load and Store of the code answer, and what stands in memory behind them. Conditions: the memory is one that a call made, of at most 2^24 bytes.
-/
import Derived.Test.YtgpdpaljbiclkaaGreatDoorSzz
import Derived.Lib.UnsafeStr
import Derived.Laws.Bits64b
import Derived.Test.YtgpdpaljbiclkaaGreatDoorProg
import Derived.WalkKit
import Derived.WalkSpells
import Derived.WalkLawsBesides
import Derived.Deep.QuietTactic
import Derived.BigQuiet
import Derived.BigRegion
import Derived.RowKit3
import Derived.Handy
import Derived.Lib.Hide
import Derived.Laws.CopyOwn
import Derived.OwnWalk
import Derived.LoopN
import Derived.Laws.Rows
import Derived.Laws.Tables
import Derived.Laws.ResultCell
import Derived.Deep.Cut
set_option maxHeartbeats 1000000
set_option maxRecDepth 100000
section
namespace Go.Proofs.YtgpdpaljbiclkaaGreatDoor
open Tryz
abbrev By:=List UInt8
def leV:By→Nat
 |[]=>0
 |c::r=>c.toNat+256*leV r
def leB:Nat→Nat→By
 |0,_=>[]
 |k+1,v=>UInt8.ofNat (v % 256)::leB k (v / 256)
theorem Z0r(k v:Nat):(leB k v).length=k:=by
 induction k generalizing v with
 |zero=>rfl
 |succ k ih=>simp[leB,ih]
theorem Z3L(l:By):leV l<256 ^ l.length:=by
 induction l with
 |nil=>simp[leV]
 |cons c r ih=>
  have:=c.toNat_lt
  simp only[leV,List.length_cons,Nat.pow_succ]
  omega
theorem Z3M(l:By)(c:UInt8):leV (l++[c])=leV l+256 ^ l.length*c.toNat:=by
 induction l with
 |nil=>simp[leV]
 |cons x r ih=>
  simp only[List.cons_append,leV,ih,List.length_cons,Nat.pow_succ,Nat.mul_add]
  rw[show 256 ^ r.length*256*c.toNat=256*(256 ^ r.length*c.toNat) by rw[Nat.mul_comm (256 ^ r.length) 256,Nat.mul_assoc]]
  omega
theorem Z3N(k v:Nat):leB (k+1) v=leB k v++[UInt8.ofNat (v / 256 ^ k % 256)]:=by
 induction k generalizing v with
 |zero=>simp[leB]
 |succ k ih=>
  rw[leB,ih (v / 256),leB,List.cons_append,Nat.div_div_eq_div_mul,Nat.pow_succ,Nat.mul_comm 256]
def lay (bs:By) (at_:Nat) (x:By):By:=bs.take at_++(x++bs.drop (at_+x.length))
theorem Jm(bs:By)(a:Nat)(x:By)(h:a+x.length≤bs.length):(lay bs a x).length=bs.length:=by simp[lay];omega
theorem Jn(bs:By)(a:Nat):lay bs a []=bs:=by simp[lay]
theorem Z13(bs:By)(a:Nat)(x:By)(c:UInt8)(h:a+x.length<bs.length):lay bs a (x++[c])=(lay bs a x).set (a+x.length) c:=by
 unfold lay
 have h1:(bs.take a).length=a:=by simp;omega
 rw[List.set_append,if_neg (by omega),h1,List.set_append,if_neg (by omega),show a+x.length-a-x.length=0 by omega,List.drop_eq_getElem_cons h,List.set_cons_zero]
 simp[Nat.add_assoc]
theorem Z5P(x k c:Nat)(hx:x<256 ^ k)(hk:k<8)(hc:c<256):bits .or .u64 (x:Int) (IntKind.u64.wrap ((c:Int)*2 ^ ((8:Int)*(k:Int)).toNat))=((x+256 ^ k*c:Nat):Int):=by
 have e1:((8:Int)*(k:Int)).toNat=8*k:=by omega
 have e2:(256:Nat) ^ k=2 ^ (8*k):=by rw[Nat.pow_mul]
 rw[e1]
 rw[e2] at hx ⊢
 have hp:2 ^ (8*k)*256≤18446744073709551616:=by
  rw[show(256:Nat)=2 ^ 8 from rfl,←Nat.pow_add,show(18446744073709551616:Nat)=2 ^ 64 from rfl]
  exact Nat.pow_le_pow_right (by omega) (by omega)
 have hm:c*2 ^ (8*k)<18446744073709551616:=by
  have:c*2 ^ (8*k)≤255*2 ^ (8*k):=Nat.mul_le_mul_right _ (by omega)
  omega
 have e3:IntKind.u64.wrap ((c:Int)*2 ^ (8*k))=((c*2 ^ (8*k):Nat):Int):=by
  rw[show((c:Int)*2 ^ (8*k))=((c*2 ^ (8*k):Nat):Int) by push_cast;rfl]
  rw[IntKind.wrap_u64];omega
 rw[e3,bits_or_u64_nat _ _ (by omega) hm]
 have h4:=Nat.shiftLeft_add_eq_or_of_lt hx c
 rw[Nat.shiftLeft_eq] at h4
 rw[Nat.or_comm,←h4,Nat.add_comm,Nat.mul_comm c]
end Go.Proofs.YtgpdpaljbiclkaaGreatDoor
end
section
namespace Go.Proofs.YtgpdpaljbiclkaaGreatDoor
open Tryz
open Go.RowKit
set_option linter.unusedVariables false
set_option linter.unusedSimpArgs false
def Mem (T:TypeId) (w:World) (p b:Nat) (bs:By):Prop:=
 w.heap[p]? =some (.cells #[.slice (some ⟨b,0,none⟩) bs.length bs.length] T (0,0))∧w.heap[b]? =some (.cells (Lib.byteCells bs).toArray 5 (0,0))
theorem Zf{w:World}{g:Nat}{o:Obj}(h:w.heap[g]? =some o):g<w.heap.size:=(Array.getElem?_eq_some_iff.1 h).1
theorem Mem.ne{T:TypeId}{w:World}{p b:Nat}{bs:By}(h:Mem T w p b bs)(hT:T≠5):p≠b:=by
 rintro rfl
 have:=h.1.symm.trans h.2
 simp at this
 exact hT this.2
theorem Mem.lt{T:TypeId}{w:World}{p b:Nat}{bs:By}(h:Mem T w p b bs):p<w.heap.size∧b<w.heap.size:=⟨Zf h.1,Zf h.2⟩
theorem Mem.below{T:TypeId}{w w':World}{p b:Nat}{bs:By}(h:Mem T w p b bs){B:Nat}(hb:Below B w w')(hp:p<B)(hq:b<B):Mem T w' p b bs:=⟨(hb.block p hp).trans h.1,(hb.block b hq).trans h.2⟩
theorem Mem.nb{T:TypeId}{w w':World}{p b:Nat}{bs:By}(h:Mem T w p b bs)(hb:Below w.heap.size w w'):Mem T w' p b bs:=h.below hb h.lt.1 h.lt.2
theorem Mem.grown{T:TypeId}{w w':World}{p b:Nat}{bs:By}(h:Mem T w p b bs){row:Option Nat}(hg:w.grownBy w' row)(hp:some p≠row)(hb:some b≠row):Mem T w' p b bs:=
 ⟨(hg.block p h.lt.1 hp).trans h.1,(hg.block b h.lt.2 hb).trans h.2⟩
theorem Mem.head{T:TypeId}{w:World}{p b:Nat}{bs:By}(h:Mem T w p b bs):w.cell? ⟨p,0,none⟩=some (.slice (some ⟨b,0,none⟩) bs.length bs.length):=cell_of_row _ _ 0 _ _ _ h.1
theorem Mem.byte{T:TypeId}{w:World}{p b:Nat}{bs:By}(h:Mem T w p b bs)(k:Nat)(hk:k<bs.length):w.cell? ⟨b,k,none⟩=some (.int .u8 (bs[k].toNat:Int)):=by
 rw[cell_of_row _ _ k _ _ _ h.2]
 simp[Lib.byteCells,hk]
theorem Z6{w:World}{g:Nat}{cs:Array Value}{t:TypeId}(h:w.heap[g]? =some (.cells cs t (0,0)))(k:Nat):w.frozen? ⟨g,k,none⟩=false:=by simp[World.frozen?,h]
theorem Mem.frozen{T:TypeId}{w:World}{p b:Nat}{bs:By}(h:Mem T w p b bs)(k:Nat):w.frozen? ⟨b,k,none⟩=false:=Z6 h.2 k
theorem Zg{w:World}{g:Nat}{cs:Array Value}{t:TypeId}(h:w.heap[g]? =some (.cells cs t (0,0)))(k:Nat)(v:Value):(w.setCell ⟨g,k,none⟩ v).heap[g]? =some (.cells (cs.setIfInBounds k v) t (0,0)):=by
 simp[World.setCell,Array.getElem?_modify,h]
theorem KT(w:World)(g k:Nat)(v:Value):w.grownBy (w.setCell ⟨g,k,none⟩ v) (some g):=
 ⟨rfl,rfl,rfl,by simp[World.setCell],fun i _ hi=>Below.heap_setCell _ _ _ i (fun e=>hi (by rw[e]))⟩
theorem Z05(bs:By)(k:Nat)(c:UInt8):(Lib.byteCells bs).set k (.int .u8 (c.toNat:Int))=Lib.byteCells (bs.set k c):=by
 simp[Lib.byteCells,List.map_set]
theorem Mem.set{T:TypeId}{w:World}{p b:Nat}{bs:By}(h:Mem T w p b bs)(hT:T≠5)(k:Nat)(c:UInt8):Mem T (w.setCell ⟨b,k,none⟩ (.int .u8 (c.toNat:Int))) p b (bs.set k c):=by
 refine⟨?_,?_⟩
 ·rw[List.length_set];exact(Below.heap_setCell _ _ _ _ (h.ne hT)).trans h.1
 ·rw[Zg h.2,←Z05];simp
theorem XW{w w1 w2:World}{row:Option Nat}(h:w.grownBy w1 row)(k:w1.grownBy w2 row):w.grownBy w2 row:=
 ⟨k.os.trans h.os,k.tape.trans h.tape,k.output.trans h.output,Nat.le_trans h.size k.size,fun i hi hr=>(k.block i (Nat.lt_of_lt_of_le hi h.size) hr).trans (h.block i hi hr)⟩
theorem Ya{B b:Nat}{w w1 w2:World}(h:Below B w w1)(k:w1.grownBy w2 (some b))(hB:B≤w1.heap.size)(hb:B≤b):Below B w w2:=
 h.grown k hB (fun i e=>by injection e with e;omega)
def fltP (n:Nat) (at_ k:Int):Int:=if (n:Int)<at_+k then 50 else 0
def flt (n:Nat) (at_ size:Int):Int:=if ¬(size=1∨size=2∨size=4∨size=8) then 2 else if at_ % size≠0 then 51 else fltP n at_ size
theorem Z14{n:Nat}{a s:Int}(h:¬(s=1∨s=2∨s=4∨s=8)):flt n a s=2:=if_pos h
theorem Z0a{n:Nat}{a s:Int}(h:s=1∨s=2∨s=4∨s=8)(h2:a % s≠0):flt n a s=51:=by unfold flt;rw[if_neg (by omega),if_pos h2]
theorem Ky{n:Nat}{a s:Int}(h:s=1∨s=2∨s=4∨s=8)(h2:a % s=0):flt n a s=fltP n a s:=by unfold flt;rw[if_neg (by omega),if_neg (by omega)]
theorem KU{n:Nat}{a s:Int}(h:flt n a s=0):(s=1∨s=2∨s=4∨s=8)∧a % s=0∧a+s≤n:=by
 unfold flt fltP at h
 split at h
 ·cases h
 ·rename_i h1
  split at h
  ·cases h
  ·rename_i h2
   split at h
   ·cases h
   ·rename_i h3
    refine⟨by omega,by omega,by omega⟩
end Go.Proofs.YtgpdpaljbiclkaaGreatDoor
end
section
namespace Go.Proofs.YtgpdpaljbiclkaaGreatDoor
open Tryz
open Go.RowKit
set_option linter.unusedVariables false
set_option linter.unusedSimpArgs false
def xV (xs:List Int):List Value:=xs.map (Value.int .u64)
theorem YW(xs:List Int):(xV xs).length=xs.length:=by simp[xV]
theorem Z0s(xs:List Int)(r:Nat)(v:Int):(xV xs).set r (.int .u64 v)=xV (xs.set r v):=by simp[xV,List.map_set]
theorem KV(xs:List Int)(r:Nat)(h:r<xs.length):(xV xs)[r]? =some (.int .u64 xs[r]):=by simp[xV,h]
theorem Z1X(xs:List Int):∀v ∈ xV xs,v.oneCell'=true:=by
 intro v hv
 obtain⟨c,-,rfl⟩:=List.mem_map.1 hv
 rfl
theorem Zu{l:List Value}(h:∀v ∈ l,v.oneCell'=true):l.toArray.all (·.oneCell')=true:=by
 rw[Array.all_eq_true_iff_forall_mem]
 intro v hv
 exact h v (by simpa using hv)
section
variable {P:Program}
theorem KW(w:World)(g off:Nat)(t ty:TypeId)(cur:Array Value)(cs:List Value)(fr:Nat×Nat)(d:TypeDesc)(hg:w.heap[g]? =some (.cells cur t fr))
  (hu:P.underlying ty=some d) (hd:(match d with| .struct _| .array _ _=>true|_=>false)=true) (hi:(P.info? ty).map (·.size)=some cs.length) (hc:∀j v,cs[j]? =some v→cur[off+j]? =some v):
  (loadVar ty ⟨g,off,none⟩).run P w=.ok (.agg cs.toArray) w:=by
 have hl:(loadCells ⟨g,off,none⟩ cs.length).run P w=.ok cs.toArray w:=
  run_loadCells_list (P:=P) w ⟨g,off,none⟩ cs (fun j v hv=>by
   have hadd:(⟨g,off,none⟩:Addr).add j=⟨g,off+j,none⟩:=by unfold Addr.add;split<;>simp_all
   rw[hadd,cell_of_row w g (off+j) cur t fr hg]
   exact hc j v hv)
 cases hq:P.info? ty with
 |none=>simp[hq] at hi
 |some i=>
  have hs:i.size=cs.length:=by simpa[hq] using hi
  have hagg:(isAgg ty).run P w=.ok true w:=by
   unfold isAgg
   rw[Sem.run_bind,run_underlying hu w]
   cases d<;>simp_all
  simp[loadVar,Sem.run_bind,hagg,sizeOf,typeInfo,hq,hs,hl]
theorem Kz(w:World)(g off:Nat)(t ty:TypeId)(cur:Array Value)(cs:List Value)(hg:w.heap[g]? =some (.cells cur t (0,0)))(hi:(P.info? ty).map (·.size)=some cs.length)
  (ho:off+cs.length≤cur.size) (h1:∀v ∈ cs,v.oneCell'=true):
  (storeVar ty ⟨g,off,none⟩ (.agg cs.toArray)).run P w=.ok () (w.setRow g (cur.toList.take off++cs++cur.toList.drop (off+cs.length)).toArray):=by
 have:=run_storeCells_at (P:=P) g off t cs 0 cur w hg (by omega) h1
 cases hq:P.info? ty with
 |none=>simp[hq] at hi
 |some i=>
  have hs:cs.length=i.size:=by simp[hq] at hi;omega
  simp only[Nat.add_zero] at this
  simp[storeVar,sizeOf,typeInfo,hq,Value.cells,hs] at this ⊢
  exact this
theorem Y0{ops:Array Oper}{rest:List Oper}{o:Oper}{a:Act}{w:World}{Q:Exit→Act→World→Prop}(hgd:o.guard=none)(ty:TypeId)(x:Operand)(ho:o.op=.load ty x)
  (p:Addr) (hx:a.eval x=.pointer (some p)) (v:Value) (hr:(loadVar ty p).run P w=.ok v w) (h:wpList P ops Q rest (a.put o.dst v) w):wpList P ops Q (o::rest) a w:=by
 refine wpList_plain hgd fun K hK=> ?_
 unfold Oper.wp execOp
 simp only[ho,hx,Instr.loadAt,Instr.sureAddr,Sem.run_bind,Sem.run_pure,Result.andThen_ok,hr]
 exact hK _ _ h
end
theorem Zd(w:World)(o:Obj){n:Nat}(hn:w.heap.size=n):(w.alloc o).heap[n]? =some o:=by subst hn;exact heap_alloc_new w o
theorem Zo{w:World}{g:Nat}{o:Obj}(h:w.heap[g]? =some o)(o':Obj):(w.alloc o').heap[g]? =some o:=(Below.heap_alloc w o' g (Zf h)).trans h
theorem KX:(Tryz.prog.info? 23).map (·.size)=some 32:=by kernel_rfl
theorem Z15(xs:List Int)(hx:xs.length=32)(r:Nat)(hr:r<32)(v:Int)(w:World):
  Calls prog 25 #[.agg (xV xs).toArray,.int .i64 (r:Int),.int .u64 v] w fun e w'=>e=.returned (.agg (xV ((xs.set r v).set 0 0)).toArray)∧Below w.heap.size w w':=by
 have hx':=Lib.hid hx
 go_enter func25,ntmps25
 clear hx
 go_upto_region 1 with(fail)
 obtain⟨W1,h1⟩:∃W1,(w.alloc (Obj.cells (xV xs).toArray 23)).alloc (Obj.cells #[.int .u64 0,.int .u64 0,.int .u64 0,.int .u64 0,.int .u64 0,.int .u64 0,.int .u64 0,.int .u64 0,.int .u64 0,.int .u64 0,.int .u64 0,.int .u64 0,.int .u64 0,.int .u64 0,.int .u64 0,.int .u64 0,.int .u64 0,.int .u64 0,.int .u64 0,.int .u64 0,.int .u64 0,.int .u64 0,.int .u64 0,.int .u64 0,.int .u64 0,.int .u64 0,.int .u64 0,.int .u64 0,.int .u64 0,.int .u64 0,.int .u64 0,.int .u64 0] 23)=W1:=⟨_,rfl⟩
 have hb:Below w.heap.size w W1:=by rw[←h1];exact((Below.refl _ _).alloc (Nat.le_refl _) _).alloc (by simp) _
 have k0:W1.heap[w.heap.size]? =some (.cells (xV xs).toArray 23 (0,0)):=by rw[←h1];exact Zo (Zd _ _ rfl) _
 have k1:W1.heap[w.heap.size+1]? =some (.cells #[.int .u64 0,.int .u64 0,.int .u64 0,.int .u64 0,.int .u64 0,.int .u64 0,.int .u64 0,.int .u64 0,.int .u64 0,.int .u64 0,.int .u64 0,.int .u64 0,.int .u64 0,.int .u64 0,.int .u64 0,.int .u64 0,.int .u64 0,.int .u64 0,.int .u64 0,.int .u64 0,.int .u64 0,.int .u64 0,.int .u64 0,.int .u64 0,.int .u64 0,.int .u64 0,.int .u64 0,.int .u64 0,.int .u64 0,.int .u64 0,.int .u64 0,.int .u64 0] 23 (0,0)):=by rw[←h1];exact Zd _ _ (by simp)
 rw[h1]
 clear h1
 obtain⟨x1,c1⟩:∃x,W1.cell? ⟨w.heap.size,r,none⟩=some x:=⟨_,(cell_of_row _ _ _ _ _ _ k0).trans (by rw[List.getElem?_toArray];exact KV xs r (by rw[hx'.out];exact hr))⟩
 have f1:=Z6 k0 r
 go_upto_region 2 with(fail)
 obtain⟨W2,h2⟩:∃W2,W1.setCell ⟨w.heap.size,r,none⟩ (.int .u64 v)=W2:=⟨_,rfl⟩
 have k2:W2.heap[w.heap.size]? =some (.cells (xV (xs.set r v)).toArray 23 (0,0)):=by rw[←h2,Zg k0,←Z0s xs r v];simp
 have k3:=(show W2.heap[w.heap.size+1]? =_ by rw[←h2];exact Below.heap_setCell _ _ _ _ (by simp)).trans k1
 have hb2:Below w.heap.size w W2:=by rw[←h2];exact hb.setCell (p:=⟨w.heap.size,r,none⟩) (Nat.le_refl _) _
 rw[h2]
 clear h2 k0 k1 hb c1 f1
 obtain⟨x2,c2⟩:∃x,W2.cell? ⟨w.heap.size,0,none⟩=some x:=⟨_,(cell_of_row _ _ _ _ _ _ k2).trans (by rw[List.getElem?_toArray];exact KV _ 0 (by rw[List.length_set,hx'.out];omega))⟩
 have f2:=Z6 k2 0
 go_upto_region 3 with(fail)
 obtain⟨W3,h3⟩:∃W3,W2.setCell ⟨w.heap.size,0,none⟩ (.int .u64 0)=W3:=⟨_,rfl⟩
 have k4:W3.heap[w.heap.size]? =some (.cells (xV ((xs.set r v).set 0 0)).toArray 23 (0,0)):=by rw[←h3,Zg k2,←Z0s (xs.set r v) 0 0];simp
 have k5:=(show W3.heap[w.heap.size+1]? =_ by rw[←h3];exact Below.heap_setCell _ _ _ _ (by simp)).trans k3
 have hb3:Below w.heap.size w W3:=by rw[←h3];exact hb2.setCell (p:=⟨w.heap.size,0,none⟩) (Nat.le_refl _) _
 rw[h3]
 clear h3 k2 k3 hb2 c2 f2
 have hl:(xV ((xs.set r v).set 0 0)).length=32:=by rw[YW,List.length_set,List.length_set];exact hx'.out
 have ho:=Z1X ((xs.set r v).set 0 0)
 obtain⟨ys,hys⟩:∃ys,xV ((xs.set r v).set 0 0)=ys:=⟨_,rfl⟩
 rw[hys] at k4 hl ho
 have hys':=Lib.hid hys
 clear hys
 apply wp_region_list
 refine wpList_load_row rfl 23 _ rfl w.heap.size rfl 23 ys.toArray (0,0) _ k4 underlying23 rfl (by rw[KX];simp[hl]) ?_
 refine wpList_store_row rfl 23 _ _ rfl (w.heap.size+1) ys.toArray rfl rfl 23 _ k5 (by rw[KX];simp[hl]) (by simp[hl]) (Zu ho) ?_
 refine wpList_nil ?_
 have k6:=setRow_heap W3 (w.heap.size+1) _ ys.toArray 23 _ k5
 have hb4:=below_setRow hb3 (Nat.le_succ _) ys.toArray
 rename_i hK
 refine hK _ _ ?_
 clear hK
 go_wp2_with fail
 exact bodyPost_ret (v:= .agg ys.toArray) (results_cell_row rfl _ _ (w.heap.size+1) 23 _ (0,0) _ rfl k6 underlying23 rfl (by rw[KX];simp[hl])) rfl ⟨by rw[hys'.out],hb4⟩
end Go.Proofs.YtgpdpaljbiclkaaGreatDoor
end
section
namespace Go.Proofs.YtgpdpaljbiclkaaGreatDoor
open Tryz
open Go.RowKit
set_option linter.unusedVariables false
set_option linter.unusedSimpArgs false
def rg (xs:List Int) (r:Nat):Int:=(xs.set 0 0).getD r 0
theorem rg_at(xs:List Int)(r:Nat)(h:r<xs.length):(xV (xs.set 0 0))[r]? =some (.int .u64 (rg xs r)):=by
 rw[KV _ r (by rw[List.length_set];exact h)]
 unfold rg
 rw[List.getD_eq_getElem?_getD,List.getElem?_eq_getElem (by rw[List.length_set];exact h)]
 rfl
def ReadFn (xs:List Int) (w:World) (e:Ending) (w':World):Prop:=
 e=.returned (.func (.func 47) #[] #[.pointer (some ⟨w.heap.size,0,none⟩)])∧w'.heap[w.heap.size]? =some (.cells (xV (xs.set 0 0)).toArray 23 (0,0))∧Below w.heap.size w w'
theorem Jf(xs:List Int)(hx:xs.length=32)(w:World):
  Calls prog 22 #[.agg (xV xs).toArray] w (ReadFn xs w):=by
 have hx':=Lib.hid hx
 clear hx
 go_enter func22,ntmps22
 go_upto_region 1 with(fail)
 obtain⟨W1,h1⟩:∃W1,w.alloc (Obj.cells (xV xs).toArray 23)=W1:=⟨_,rfl⟩
 have hb:Below w.heap.size w W1:=by rw[←h1];exact(Below.refl _ _).alloc (Nat.le_refl _) _
 have k0:W1.heap[w.heap.size]? =some (.cells (xV xs).toArray 23 (0,0)):=by rw[←h1];exact Zd _ _ rfl
 rw[h1]
 clear h1
 obtain⟨x1,c1⟩:∃x,W1.cell? ⟨w.heap.size,0,none⟩=some x:=⟨_,(cell_of_row _ _ _ _ _ _ k0).trans (by rw[List.getElem?_toArray];exact KV xs 0 (by rw[hx'.out];omega))⟩
 have f1:=Z6 k0 0
 have k1:(W1.setCell ⟨w.heap.size,0,none⟩ (.int .u64 0)).heap[w.heap.size]? =some (.cells (xV (xs.set 0 0)).toArray 23 (0,0)):=by rw[Zg k0,←Z0s xs 0 0];simp
 have hb2:=hb.setCell (p:=⟨w.heap.size,0,none⟩) (Nat.le_refl _) (.int .u64 0)
 replace k1:=Lib.hid k1
 clear k0
 go_wp2_with fail
 go_ret
 exact⟨rfl,k1.out,hb2⟩
theorem Z2Z(B:Nat)(xs:List Int)(r:Nat)(h:r<xs.length)(w:World)(hB:w.heap[B]? =some (.cells (xV (xs.set 0 0)).toArray 23 (0,0)))(hx:xs.length=32):
  Calls prog 47 #[.int .i64 (r:Int),.pointer (some ⟨B,0,none⟩)] w fun e w'=>e=.returned (.int .u64 (rg xs r))∧w=w':=by
 have c:w.cell? ⟨B,r,none⟩=some (.int .u64 (rg xs r)):=by rw[cell_of_row _ _ r _ _ _ hB,List.getElem?_toArray];exact rg_at xs r h
 have hr:r<32:=by omega
 clear hx h hB
 go_enter func47,ntmps47
 go_wp2_with fail
 go_ret
 exact⟨rfl,rfl⟩
def BrB (op:Int):Bool:=decide (5≤op∧op≤10)
theorem Z3O{a b:Bool}(h:a=b):Ending.returned (.bool a)=.returned (.bool b):=by rw[h]
theorem Z1Y(op:Int)(w:World):Calls prog 55 #[.int .i64 op] w fun e w'=>e=.returned (.bool (BrB op))∧w=w':=by
 by_cases h5:5≤op
 ·by_cases h10:op≤10
  ·have H:=Lib.hid (show BrB op=true from decide_eq_true ⟨h5,h10⟩)
   go_enter func55,ntmps55
   go_wp2_with fail
   go_ret
   exact⟨Z3O H.out.symm,rfl⟩
  ·have H:=Lib.hid (show BrB op=false from decide_eq_false (by omega))
   go_enter func55,ntmps55
   go_wp2_with fail
   go_ret
   exact⟨Z3O H.out.symm,rfl⟩
 ·have H:=Lib.hid (show BrB op=false from decide_eq_false (by omega))
  go_enter func55,ntmps55
  go_wp2_with fail
  go_ret
  exact⟨Z3O H.out.symm,rfl⟩
end Go.Proofs.YtgpdpaljbiclkaaGreatDoor
end
section
namespace Go.Proofs.YtgpdpaljbiclkaaGreatDoor
open Tryz
open Go.RowKit
set_option linter.unusedVariables false
set_option linter.unusedSimpArgs false
theorem X0(p b:Nat)(bs:By)(w:World)(hM:Mem 85 w p b bs):
  Calls prog 44 #[.pointer (some ⟨p,0,none⟩)] w fun e w'=>e=.returned (.bool true)∧w=w':=by
 have hc:=hM.head
 go_enter func44,ntmps44
 go_wp2
 go_ret
 exact⟨rfl,rfl⟩
def Ku (b:Nat) (at_ k n:Nat) (w:World) (e:Ending) (w':World):Prop:=∃A,(0<k→A=some ⟨b,at_,none⟩)∧e=.returned (.tuple #[.slice A k (n-at_),.int .i64 0])∧w=w'
theorem Z0t(p b:Nat)(bs:By)(at_ k:Nat)(h:at_+k≤bs.length)(hl:bs.length≤16777216)(w:World)(hM:Mem 85 w p b bs):
  Calls prog 19 #[.pointer (some ⟨p,0,none⟩),.int .u64 (at_:Int),.int .i64 (k:Int)] w (Ku b at_ k bs.length w):=by
 have hc:=hM.head
 go_enter func19,ntmps19
 go_wp2_with fail
 refine(X0 p b bs _ hM).mono ?_
 rintro e w'⟨rfl,rfl⟩
 go_wp2_with fail
 all_goals
  go_ret2
  first
   |exact⟨_,fun h=>absurd h (by omega),rfl,rfl⟩
   |exact⟨_,fun _=>rfl,rfl,rfl⟩
   |exact⟨some ⟨b,0,none⟩,fun h=>absurd h (by omega),by simp,rfl⟩
theorem Z2u(p b:Nat)(bs:By)(at_:Int)(k:Nat)(a0:0≤at_)(a1:at_<18446744073709551616)(k1:k≤9223372036854775807)(h:(bs.length:Int)<at_+k)(hl:bs.length≤16777216)(w:World)(hM:Mem 85 w p b bs):
  Calls prog 19 #[.pointer (some ⟨p,0,none⟩),.int .u64 at_,.int .i64 (k:Int)] w fun e w'=>e=.returned (.tuple #[.slice none 0 0,.int .i64 50])∧w=w':=by
 have hc:=hM.head
 by_cases h1:(bs.length:Int)<at_
 ·go_enter func19,ntmps19
  go_wp2_with fail
  refine(X0 p b bs _ hM).mono ?_
  rintro e w'⟨rfl,rfl⟩
  go_wp2_with fail
  go_ret2
  exact⟨rfl,rfl⟩
 ·have h2:(bs.length:Int)-at_<k:=by omega
  clear h
  go_enter func19,ntmps19
  go_wp2_with fail
  refine(X0 p b bs _ hM).mono ?_
  rintro e w'⟨rfl,rfl⟩
  go_wp2_with fail
  all_goals
   go_ret2
   exact⟨rfl,rfl⟩
theorem Z3P(p b:Nat)(bs:By)(at_ s:Int)(h:¬(s=1∨s=2∨s=4∨s=8))(w:World)(hM:Mem 85 w p b bs):
  Calls prog 42 #[.pointer (some ⟨p,0,none⟩),.int .u64 at_,.int .i64 s] w fun e w'=>e=.returned (.tuple #[.slice none 0 0,.int .i64 2])∧w=w':=by
 have h1:(s==1)=false:=nB (by omega)
 have h2:(s==2)=false:=nB (by omega)
 have h4:(s==4)=false:=nB (by omega)
 have h8:(s==8)=false:=nB (by omega)
 clear h
 go_enter func42,ntmps42
 go_wp2_with fail
 refine(X0 p b bs _ hM).mono ?_
 rintro e w'⟨rfl,rfl⟩
 go_wp2_with fail
 go_ret2
 exact⟨rfl,rfl⟩
theorem Z30(p b:Nat)(bs:By)(at_ s:Int)(hs:s=1∨s=2∨s=4∨s=8)(h:at_ % s≠0)(a0:0≤at_)(a1:at_<18446744073709551616)(w:World)(hM:Mem 85 w p b bs):
  Calls prog 42 #[.pointer (some ⟨p,0,none⟩),.int .u64 at_,.int .i64 s] w fun e w'=>e=.returned (.tuple #[.slice none 0 0,.int .i64 51])∧w=w':=by
 rcases hs with rfl|rfl|rfl|rfl
 ·omega
 all_goals
  go_enter func42,ntmps42
  go_wp2_with fail
  refine(X0 p b bs _ hM).mono ?_
  rintro e w'⟨rfl,rfl⟩
  go_wp2_with fail
  all_goals
   go_ret2
   exact⟨rfl,rfl⟩
theorem Z3Q(p b:Nat)(bs:By)(at_ s:Nat)(hs:(s:Int)=1∨(s:Int)=2∨(s:Int)=4∨(s:Int)=8)(h0:(at_:Int) % (s:Int)=0)(h:at_+s≤bs.length)(hl:bs.length≤16777216)(w:World)(hM:Mem 85 w p b bs):
  Calls prog 42 #[.pointer (some ⟨p,0,none⟩),.int .u64 (at_:Int),.int .i64 (s:Int)] w (Ku b at_ s bs.length w):=by
 have HP:=Lib.hid (Z0t p b bs at_ s h hl w hM)
 obtain⟨n,hn⟩:∃n,bs.length=n:=⟨_,rfl⟩
 rw[hn] at HP ⊢
 clear hn h hl
 have e:s=1∨s=2∨s=4∨s=8:=by omega
 unfold Ku at HP ⊢
 rcases e with rfl|rfl|rfl|rfl
 all_goals
  go_enter func42,ntmps42
  go_wp2_with fail
  refine(X0 p b bs _ hM).mono ?_
  rintro e w'⟨rfl,rfl⟩
  go_wp2_with fail
  refine(HP.out).mono ?_
  rintro e w'⟨A,hA,rfl,rfl⟩
  obtain rfl:=hA (by omega)
  clear hA
  go_wp2_with fail
  go_ret2
  exact⟨_,fun _=>rfl,rfl,rfl⟩
end Go.Proofs.YtgpdpaljbiclkaaGreatDoor
end
section
namespace Go.Proofs.YtgpdpaljbiclkaaGreatDoor
open Tryz
open Go.RowKit
set_option linter.unusedVariables false
set_option linter.unusedSimpArgs false
theorem val_i{k:IntKind}{a b:Int}(h:a=b):Value.int k a=.int k b:=by rw[h]
def numAt (bs:By) (at_ s:Nat):Nat:=leV ((bs.drop at_).take s)
theorem JB(bs:By)(a:Nat):numAt bs a 0=0:=by simp[numAt,leV]
theorem Z31(bs:By)(a k:Nat)(h:a+k<bs.length):(bs.drop a).take (k+1)=(bs.drop a).take k++[bs[a+k]]:=by
 rw[List.take_add_one,List.getElem?_drop,List.getElem?_eq_getElem h];rfl
theorem Z1Z(bs:By)(a k:Nat)(h:a+k<bs.length)(hk:k<8):bits .or .u64 (numAt bs a k:Int) (IntKind.u64.wrap (IntKind.u64.wrap (bs[a+k].toNat:Int)*2 ^ (8*k)))=(numAt bs a (k+1):Int):=by
 have hl:((bs.drop a).take k).length=k:=by simp;omega
 have h1:=Z3L ((bs.drop a).take k)
 rw[hl] at h1
 have h2:=Z5P _ _ _ h1 hk bs[a+k].toNat_lt
 have e1:((8:Int)*(k:Int)).toNat=8*k:=by omega
 have e2:IntKind.u64.wrap (bs[a+k].toNat:Int)=(bs[a+k].toNat:Int):=by have:=bs[a+k].toNat_lt;rw[IntKind.wrap_u64];omega
 rw[e1] at h2
 rw[e2]
 unfold numAt
 rw[h2,Z31 bs a k h,Z3M,hl]
theorem JC(bs:By)(a s:Nat)(hs:s≤8):numAt bs a s<18446744073709551616:=by
 have h1:=Z3L ((bs.drop a).take s)
 have h2:((bs.drop a).take s).length≤8:=by simp;omega
 have h3:(256:Nat) ^ ((bs.drop a).take s).length≤256 ^ 8:=Nat.pow_le_pow_right (by omega) h2
 unfold numAt
 omega
theorem Z5Q(p b:Nat)(bs:By)(at_ s:Nat)(hs:(s:Int)=1∨(s:Int)=2∨(s:Int)=4∨(s:Int)=8)(h0:(at_:Int) % (s:Int)=0)(h:at_+s≤bs.length)(hl:bs.length≤16777216)(w:World)(hM:Mem 85 w p b bs):
  Calls prog 45 #[.pointer (some ⟨p,0,none⟩),.int .u64 (at_:Int),.int .i64 (s:Int)] w fun e w'=>e=.returned (.tuple #[.int .u64 (numAt bs at_ s:Int),.int .i64 0])∧w=w':=by
 have HN:=Lib.hid (Z3Q p b bs at_ s hs h0 h hl w hM)
 have hs8:s≤8:=by omega
 have hs1:1≤s:=by omega
 have hN0:=Lib.hid (JB bs at_)
 unfold Ku at HN
 clear hs h0
 go_enter func45,ntmps45
 go_wp2_with fail
 refine(HN.out).mono ?_
 rintro e w'⟨A,hA,rfl,rfl⟩
 obtain rfl:=hA (by omega)
 clear hA HN
 go_wp2_with fail
 go_loop [10,23] (fun v i=>∃k:Nat,k≤s∧i=.int .i64 k∧v=.int .u64 (numAt bs at_ k:Int)) (fun _ i=>s-(intOf i).toNat)
 case atStart=>exact⟨0,Nat.zero_le _,rfl,val_i (by rw[hN0.out];rfl)⟩
 case round=>
  obtain⟨k,hk,rfl,rfl⟩:=hrel
  by_cases hlt:k<s
  ·have hc:=hM.byte (at_+k) (by omega)
   have hst:=Lib.hid (Z1Z bs at_ k (by omega) (by omega))
   have hlt2:=JC bs at_ k (by omega)
   go_wp2
   go_round
   case rel=>exact⟨k+1,by omega,by go_num,val_i hst.out⟩
   case measure=>simp[intOf];omega
  ·obtain rfl:k=s:=by omega
   clear hk hlt
   go_wp2
   go_ret2
   exact⟨rfl,rfl⟩
theorem JD(bs:By)(a k v:Nat)(h:a+k≤bs.length):(lay bs a (leB k v)).length=bs.length:=Jm bs a _ (by rw[Z0r];exact h)
theorem Z16(bs:By)(a k v:Nat)(h:a+k<bs.length):lay bs a (leB (k+1) v)=(lay bs a (leB k v)).set (a+k) (UInt8.ofNat (v / 256 ^ k % 256)):=by
 rw[Z3N,Z13 bs a _ _ (by rw[Z0r];exact h),Z0r]
theorem Z3R(v k:Nat):IntKind.u8.wrap ((v:Int) / 2 ^ (8*k))=((UInt8.ofNat (v / 256 ^ k % 256)).toNat:Int):=by
 have e:(256:Nat) ^ k=2 ^ (8*k):=by rw[Nat.pow_mul]
 have h1:(UInt8.ofNat (v / 256 ^ k % 256)).toNat=v / 256 ^ k % 256:=by simp
 rw[h1,e,IntKind.wrap_u8]
 rw[show((v:Int) / 2 ^ (8*k))=((v / 2 ^ (8*k):Nat):Int) by push_cast;rfl]
 omega
theorem Z3S(p b:Nat)(bs:By)(at_ s v:Nat)(hs:(s:Int)=1∨(s:Int)=2∨(s:Int)=4∨(s:Int)=8)(h0:(at_:Int) % (s:Int)=0)(h:at_+s≤bs.length)(hl:bs.length≤16777216)(w:World)(hM:Mem 85 w p b bs):
  Calls prog 17 #[.pointer (some ⟨p,0,none⟩),.int .u64 (at_:Int),.int .i64 (s:Int),.int .u64 (v:Int)] w fun e w'=>e=.returned (.int .i64 0)∧Mem 85 w' p b (lay bs at_ (leB s v))∧w.grownBy w' (some b):=by
 have HN:=Lib.hid (Z3Q p b bs at_ s hs h0 h hl w hM)
 have hs8:s≤8:=by omega
 have hs1:1≤s:=by omega
 unfold Ku at HN
 clear hs h0
 go_enter func17,ntmps17
 go_wp2_with fail
 refine(HN.out).mono ?_
 rintro e w'⟨A,hA,rfl,rfl⟩
 obtain rfl:=hA (by omega)
 clear hA HN
 go_wp2_with fail
 go_loopw [23] (fun i wr=>∃k:Nat,k≤s∧i=.int .i64 k∧Mem 85 wr p b (lay bs at_ (leB k v))∧w.grownBy wr (some b)) (fun i _=>s-(intOf i).toNat)
 case atStart=>exact⟨0,Nat.zero_le _,rfl,by rw[show leB 0 v=[] from rfl,Jn];exact hM,World.grownBy.refl w _⟩
 case round=>
  obtain⟨k,hk,rfl,hMr,hg⟩:=hrel
  by_cases hlt:k<s
  ·have hf:=hMr.frozen (at_+k)
   have hll:=JD bs at_ k v (by omega)
   obtain⟨x,hc⟩:∃x,wr.cell? ⟨b,at_+k,none⟩=some x:=⟨_,hMr.byte (at_+k) (by omega)⟩
   have hset:=Lib.hid (hMr.set (by decide) (at_+k) (UInt8.ofNat (v / 256 ^ k % 256)))
   rw[←Z16 bs at_ k v (by omega),←Z3R] at hset
   clear hMr hll
   go_wp2
   go_roundw
   case rel=>exact⟨k+1,by omega,by go_num,hset.out,XW hg (KT _ _ _ _)⟩
   case measure=>simp[intOf];omega
  ·obtain rfl:k=s:=by omega
   clear hk hlt
   go_wp2
   go_ret
   exact⟨rfl,hMr,hg⟩
theorem Z3T(p b:Nat)(bs:By)(at_ s:Int)(a0:0≤at_)(a1:at_<18446744073709551616)(h:flt bs.length at_ s≠0)(hl:bs.length≤16777216)(w:World)(hM:Mem 85 w p b bs):
  Calls prog 42 #[.pointer (some ⟨p,0,none⟩),.int .u64 at_,.int .i64 s] w fun e w'=>e=.returned (.tuple #[.slice none 0 0,.int .i64 (flt bs.length at_ s)])∧w=w':=by
 by_cases hs:s=1∨s=2∨s=4∨s=8
 ·by_cases h2:at_ % s=0
  ·rw[Ky hs h2] at h ⊢
   have h3:(bs.length:Int)<at_+s:=by
    unfold fltP at h
    split at h
    ·assumption
    ·exact absurd rfl h
   have e:fltP bs.length at_ s=50:=if_pos h3
   rw[e]
   obtain⟨k,rfl⟩:∃k:Nat,s=(k:Int):=⟨s.toNat,by omega⟩
   have HP:=Lib.hid (Z2u p b bs at_ k a0 a1 (by omega) h3 hl w hM)
   clear h h3 e
   have e:k=1∨k=2∨k=4∨k=8:=by omega
   rcases e with rfl|rfl|rfl|rfl
   all_goals
    go_enter func42,ntmps42
    go_wp2_with fail
    refine(X0 p b bs _ hM).mono ?_
    rintro e w'⟨rfl,rfl⟩
    go_wp2_with fail
    refine(HP.out).mono ?_
    rintro e w'⟨rfl,rfl⟩
    go_wp2_with fail
    go_ret2
    exact⟨rfl,rfl⟩
  ·rw[Z0a hs h2]
   exact Z30 p b bs at_ s hs h2 a0 a1 w hM
 ·rw[Z14 hs]
  exact Z3P p b bs at_ s hs w hM
def ldV (bs:By) (at_ s:Int):Int:=if flt bs.length at_ s=0 then(numAt bs at_.toNat s.toNat:Int) else 0
def stB (bs:By) (at_ s v:Int):By:=if flt bs.length at_ s=0 then lay bs at_.toNat (leB s.toNat v.toNat) else bs
theorem Z2v(bs:By)(at_ s v:Int)(a0:0≤at_):(stB bs at_ s v).length=bs.length:=by
 unfold stB
 split
 ·rename_i h
  obtain⟨h1,h2,h3⟩:=KU h
  exact JD _ _ _ _ (by omega)
 ·rfl
theorem Yl(bs:By)(at_ s:Int):0≤ldV bs at_ s∧ldV bs at_ s<18446744073709551616:=by
 unfold ldV
 split
 ·rename_i h
  obtain⟨h1,h2,h3⟩:=KU h
  have:=JC bs at_.toNat s.toNat (by omega)
  omega
 ·omega
theorem Z17(n:Nat)(a s:Int)(h:flt n a s≠0):flt n a s=2∨flt n a s=51∨flt n a s=50:=by
 unfold flt fltP at*
 repeat' split
 all_goals simp_all
theorem Z18(p b:Nat)(bs:By)(at_ s:Int)(a0:0≤at_)(a1:at_<18446744073709551616)(hl:bs.length≤16777216)(w:World)(hM:Mem 85 w p b bs):
  Calls prog 45 #[.pointer (some ⟨p,0,none⟩),.int .u64 at_,.int .i64 s] w fun e w'=>e=.returned (.tuple #[.int .u64 (ldV bs at_ s),.int .i64 (flt bs.length at_ s)])∧w=w':=by
 by_cases h:flt bs.length at_ s=0
 ·obtain⟨h1,h2,h3⟩:=KU h
  unfold ldV
  rw[if_pos h,h]
  obtain⟨k,rfl⟩:∃k:Nat,s=(k:Int):=⟨s.toNat,by omega⟩
  obtain⟨a,rfl⟩:∃a:Nat,at_=(a:Int):=⟨at_.toNat,by omega⟩
  exact Z5Q p b bs a k h1 h2 (by omega) hl w hM
 ·have HN:=Lib.hid (Z3T p b bs at_ s a0 a1 h hl w hM)
  have hv:=Z17 _ _ _ h
  unfold ldV
  rw[if_neg h]
  generalize flt bs.length at_ s=E at*
  clear h
  rcases hv with rfl|rfl|rfl
  all_goals
   go_enter func45,ntmps45
   go_wp2_with fail
   refine(HN.out).mono ?_
   rintro e w'⟨rfl,rfl⟩
   go_wp2_with fail
   go_ret2
   exact⟨rfl,rfl⟩
theorem KY(p b:Nat)(bs:By)(at_ s v:Int)(a0:0≤at_)(a1:at_<18446744073709551616)(v0:0≤v)(hl:bs.length≤16777216)(w:World)(hM:Mem 85 w p b bs):
  Calls prog 17 #[.pointer (some ⟨p,0,none⟩),.int .u64 at_,.int .i64 s,.int .u64 v] w fun e w'=>e=.returned (.int .i64 (flt bs.length at_ s))∧Mem 85 w' p b (stB bs at_ s v)∧w.grownBy w' (some b):=by
 by_cases h:flt bs.length at_ s=0
 ·obtain⟨h1,h2,h3⟩:=KU h
  unfold stB
  rw[if_pos h,h]
  obtain⟨k,rfl⟩:∃k:Nat,s=(k:Int):=⟨s.toNat,by omega⟩
  obtain⟨a,rfl⟩:∃a:Nat,at_=(a:Int):=⟨at_.toNat,by omega⟩
  obtain⟨u,rfl⟩:∃u:Nat,v=(u:Int):=⟨v.toNat,by omega⟩
  exact Z3S p b bs a k u h1 h2 (by omega) hl w hM
 ·have HN:=Lib.hid (Z3T p b bs at_ s a0 a1 h hl w hM)
  have hv:=Z17 _ _ _ h
  unfold stB
  rw[if_neg h]
  generalize flt bs.length at_ s=E at*
  clear h
  rcases hv with rfl|rfl|rfl
  all_goals
   go_enter func17,ntmps17
   go_wp2_with fail
   refine(HN.out).mono ?_
   rintro e w'⟨rfl,rfl⟩
   go_wp2_with fail
   go_ret
   exact⟨rfl,hM,World.grownBy.refl w _⟩
end Go.Proofs.YtgpdpaljbiclkaaGreatDoor
end

/-
  Proved here: what the small functions of the code's package inst answer: pieces put and told, the head of an operation. Conditions: words are words, forms are forms; the table of codes holds what its text lays. ¦ the rows of the reference's table, plainly. No condition. ¦ what headOf and word of the code answer: the row of the reference, and the word with that head. Conditions: the table of codes holds what its text lays; the form is one. ¦ what fieldsWord, immWord, immIn, headIn of the code answer. Conditions: the fields are those of an instruction that may be; the form is one; the word is a word. ¦ which fields the code and the reference say that each form has. Conditions: the number is that of a form.
-/
import Derived.Test.YtgpdpaljbiclkaaGreatDoorSac
import Derived.Test.YtgpdpaljbiclkaaGreatDoorSab
import Derived.Deep.RegionHeld3
import Derived.Deep.QuietTactic
import Derived.BigQuiet
section
namespace Go.Proofs.YtgpdpaljbiclkaaGreatDoor
open Tryz
open Go.RowKit
set_option linter.unusedVariables false
theorem Jh(x low n v:Int)(h0:0≤x)(h1:x<18446744073709551616):0≤Plc x low n v∧Plc x low n v<18446744073709551616:=by
 unfold Plc
 by_cases h:low<0∨63<low∨n<1
 ·rw[Z0v low n h,Zs];omega
 ·have:=Ke low n (by omega) (by omega) (by omega)
  have:=XX x.toNat low.toNat (wid low n) v.toNat (by omega) (by omega)
  omega
theorem Z0c(x low n:Int)(h0:0≤x)(h1:x<18446744073709551616):0≤Fld x low n∧Fld x low n<18446744073709551616:=by
 unfold Fld
 have:=JF x.toNat low.toNat (wid low n) (by omega)
 omega
def Put (p:P3) (w v:Int):Int:=Plc w p.2.2 p.2.1 (Fld v p.1 p.2.1)
def Get (p:P3) (v w:Int):Int:=Plc v p.1 p.2.1 (Fld w p.2.2 p.2.1)
theorem Z2x(p:P3)(w v:Int)(h0:0≤w)(h1:w<18446744073709551616):0≤Put p w v∧Put p w v<18446744073709551616:=Jh _ _ _ _ h0 h1
theorem Z2y(p:P3)(v w:Int)(h0:0≤v)(h1:v<18446744073709551616):0≤Get p v w∧Get p v w<18446744073709551616:=Jh _ _ _ _ h0 h1
theorem Z2z(x low n:Int)(h0:0≤x)(h1:x<18446744073709551616)(w:World):
  Calls prog 82 #[.int .u64 x,.int .i64 low,.int .i64 n] w fun e w'=>e=.returned (.int .u64 (Fld x low n))∧w'=w:=
 (ZE x low n h0 h1 w).mono fun _ _ ⟨he,hw⟩=>⟨he,hw.symm⟩
theorem Kf(a b c w v:Int)(w0:0≤w)(w1:w<18446744073709551616)(v0:0≤v)(v1:v<18446744073709551616)(W:World):
  Calls prog 78 #[.agg #[.int .i64 a,.int .i64 b,.int .i64 c],.int .u64 w,.int .u64 v] W fun e w'=>e=.returned (.int .u64 (Put (a,b,c) w v))∧Nw W w':=by
 obtain⟨f0,f1⟩:=Z0c v a b v0 v1
 go_enter func78,ntmps78
 go_wp2_with fail
 go_quiet ((first|(go_at_call 82;exact Calls.quiet_of_same (Z2z _ _ _ v0 v1 _))|(go_at_call 76;exact Calls.quiet_of (YX _ _ _ _ w0 w1 f0 f1 _))))
 go_wp2_with fail
 go_ret
 exact⟨rfl,((Nw.refl _).alloc _ _).drewN _⟩
theorem Kg(a b c v w:Int)(w0:0≤w)(w1:w<18446744073709551616)(v0:0≤v)(v1:v<18446744073709551616)(W:World):
  Calls prog 116 #[.agg #[.int .i64 a,.int .i64 b,.int .i64 c],.int .u64 v,.int .u64 w] W fun e w'=>e=.returned (.int .u64 (Get (a,b,c) v w))∧Nw W w':=by
 obtain⟨f0,f1⟩:=Z0c w c b w0 w1
 go_enter func116,ntmps116
 go_wp2_with fail
 go_quiet ((first|(go_at_call 82;exact Calls.quiet_of_same (Z2z _ _ _ w0 w1 _))|(go_at_call 76;exact Calls.quiet_of (YX _ _ _ _ v0 v1 f0 f1 _))))
 go_wp2_with fail
 go_ret
 exact⟨rfl,((Nw.refl _).alloc _ _).drewN _⟩
theorem Z60(b:Bool)(w:World):Calls prog 80 #[.bool b] w fun e w'=>e=.returned (.int .u64 (if b=true then 1 else 0))∧w=w':=by
 cases b
 ·go_enter func80,ntmps80
  go_wp2
  go_ret
  exact⟨rfl,rfl⟩
 ·go_enter func80,ntmps80
  go_wp2
  go_ret
  exact⟨rfl,rfl⟩
def Yw (r:Int):Bool:=decide (0≤r) && decide (r≤31)
theorem Kh(r:Int)(w:World):Calls prog 74 #[.int .i64 r] w fun e w'=>e=.returned (.bool (Yw r))∧w=w':=by
 by_cases h:0≤r
 ·go_enter func74,ntmps74
  go_wp2
  go_ret
  exact⟨Zw (by unfold Yw;rw[decide_eq_true h];rfl),rfl⟩
 ·go_enter func74,ntmps74
  go_wp2
  go_ret
  exact⟨Zw (by unfold Yw;rw[decide_eq_false (by omega)];rfl),rfl⟩
end Go.Proofs.YtgpdpaljbiclkaaGreatDoor
end
section
namespace Go.Proofs.YtgpdpaljbiclkaaGreatDoor
open Tryz
set_option linter.unusedVariables false
abbrev R4:=Int×Int×Int×Int
def rowTab:List R4:=[
 (1,55,0,0),(1,23,0,0),(2,111,0,0),(3,103,0,0),(4,99,0,0),(4,99,1,0),(4,99,4,0),(4,99,5,0),
 (4,99,6,0),(4,99,7,0),(3,3,0,0),(3,3,1,0),(3,3,2,0),(3,3,3,0),(3,3,4,0),(3,3,5,0),
 (3,3,6,0),(5,35,0,0),(5,35,1,0),(5,35,2,0),(5,35,3,0),(3,19,0,0),(3,19,2,0),(3,19,3,0),
 (3,19,4,0),(3,19,6,0),(3,19,7,0),(6,19,1,0),(6,19,5,0),(6,19,5,32),(8,51,0,0),(8,51,0,32),
 (8,51,1,0),(8,51,2,0),(8,51,3,0),(8,51,4,0),(8,51,5,0),(8,51,5,32),(8,51,6,0),(8,51,7,0),
 (3,27,0,0),(7,27,1,0),(7,27,5,0),(7,27,5,32),(8,59,0,0),(8,59,0,32),(8,59,1,0),(8,59,5,0),
 (8,59,5,32),(9,15,0,0),(10,115,0,0),(10,115,0,1),(8,51,0,1),(8,51,1,1),(8,51,2,1),(8,51,3,1),
 (8,51,4,1),(8,51,5,1),(8,51,6,1),(8,51,7,1),(8,59,0,1),(8,59,4,1),(8,59,5,1),(8,59,6,1),
 (8,59,7,1),(11,47,2,2),(12,47,2,3),(12,47,2,1),(12,47,2,0),(12,47,2,4),(12,47,2,12),(12,47,2,8),
 (12,47,2,16),(12,47,2,20),(12,47,2,24),(12,47,2,28),(11,47,3,2),(12,47,3,3),(12,47,3,1),(12,47,3,0),
 (12,47,3,4),(12,47,3,12),(12,47,3,8),(12,47,3,16),(12,47,3,20),(12,47,3,24),(12,47,3,28)]
def Z9 (op:Int):R4:=if 1≤op∧op≤87 then rowTab.getD (op.toNat-1) (0,0,0,0) else(0,0,0,0)
theorem Z61(op:Int)(h0:1≤op)(h1:op≤87):Z9 op=rowTab.getD (op.toNat-1) (0,0,0,0):=if_pos ⟨h0,h1⟩
theorem Z0y(op:Int)(h:op<1∨87<op):Z9 op=(0,0,0,0):=if_neg (by omega)
end Go.Proofs.YtgpdpaljbiclkaaGreatDoor
end
section
namespace Go.Proofs.YtgpdpaljbiclkaaGreatDoor
open Tryz
open Go.RowKit
set_option linter.unusedVariables false
def codeTab:List Int:=[
 0,1273856,1142784,2551808,3567616,4599808,4600064,4600832,4601088,4601344,4601600,
 3158016,3158272,3158528,3158784,3159040,3159296,3159552,5386240,5386496,5386752,5387008,
 3223552,3224064,3224320,3224576,3225088,3225344,6369536,6370560,6370592,8597504,8597536,
 8597760,8598016,8598272,8598528,8598784,8598816,8599040,8599296,3256320,7450880,7451904,
 7451936,8630272,8630304,8630528,8631552,8631584,9498624,10956800,10956801,8597505,8597761,
 8598017,8598273,8598529,8598785,8599041,8599297,8630273,8631297,8631553,8631809,8632065,
 11727362,12775939,12775937,12775936,12775940,12775948,12775944,12775952,12775956,12775960,12775964,
 11727618,12776195,12776193,12776192,12776196,12776204,12776200,12776208,12776212,12776216,12776220]
def codeAt (i:Nat):Int:=codeTab.getD i 0
def Cod (w:World):Prop:= 0 <w.heap.size∧∀i,i<88→w.cell? ⟨0,i,none⟩=some (.int .u32 (codeAt i))
theorem Cod.of_nw{a b:World}(h:Cod a)(k:Nw a b):Cod b:=
 ⟨Nat.lt_of_lt_of_le h.1 k.size,fun i hi=>(k.cells 0 i h.1).trans (h.2 i hi)⟩
theorem Z43:∀i:Nat,i<88→bits .andNot .u32 (codeAt i) 1048575=1048576*(Z9 (i:Int)).1∧IntKind.u64.wrap (bits .and .u32 (codeAt i / 4096) 255)=(Z9 (i:Int)).2.1
  ∧IntKind.u64.wrap (bits .and .u32 (codeAt i / 256) 15)=(Z9 (i:Int)).2.2.1∧IntKind.u64.wrap (bits .and .u32 (codeAt i) 255)=(Z9 (i:Int)).2.2.2∧0≤codeAt i∧codeAt i<4294967296:=by decide+kernel
theorem Z62:∀i:Nat,i<88→0≤(Z9 (i:Int)).1∧(Z9 (i:Int)).1≤12∧0≤(Z9 (i:Int)).2.1∧(Z9 (i:Int)).2.1≤127∧0≤(Z9 (i:Int)).2.2.1∧(Z9 (i:Int)).2.2.1≤7∧0≤(Z9 (i:Int)).2.2.2∧(Z9 (i:Int)).2.2.2≤127:=by decide+kernel
theorem XI(op:Int):0≤(Z9 op).1∧(Z9 op).1≤12∧0≤(Z9 op).2.1∧(Z9 op).2.1≤127∧0≤(Z9 op).2.2.1∧(Z9 op).2.2.1≤7∧0≤(Z9 op).2.2.2∧(Z9 op).2.2.2≤127:=by
 by_cases h:op<1∨87<op
 ·rw[Z0y op h];decide
 ·have:=Z62 op.toNat (by omega)
  rw[show((op.toNat:Nat):Int)=op by omega] at this
  exact this
theorem X1(op:Int)(w:World)(hC:Cod w):
  Calls prog 38 #[.int .i64 op] w fun e w'=>e=.returned (.agg #[.int .u32 (1048576*(Z9 op).1),.int .u64 (Z9 op).2.1,.int .u64 (Z9 op).2.2.1,.int .u64 (Z9 op).2.2.2])∧Nw w w':=by
 by_cases h:op<0∨88≤op
 ·have E:=Lib.hid (Z0y op (by omega))
  by_cases c:op<0
  ·clear h
   go_enter func38,ntmps38
   go_wp2
   exact bodyPost_ret (v:= .agg #[.int .u32 0,.int .u64 0,.int .u64 0,.int .u64 0]) (by simp[results,results38,go_sem]) rfl ⟨by rw[E.out];rfl,by repeat (first|exact Nw.refl _|apply Nw.alloc)⟩
  ·have c':88≤op:=by omega
   clear h
   go_enter func38,ntmps38
   go_wp2
   exact bodyPost_ret (v:= .agg #[.int .u32 0,.int .u64 0,.int .u64 0,.int .u64 0]) (by simp[results,results38,go_sem]) rfl ⟨by rw[E.out];rfl,by repeat (first|exact Nw.refl _|apply Nw.alloc)⟩
 ·have f0:0≤op:=by omega
  have f1:op<88:=by omega
  clear h
  obtain⟨b1,b2,b3,b4,c0,c1⟩:=Z43 op.toNat (by omega)
  rw[show((op.toNat:Nat):Int)=op by omega] at b1 b2 b3 b4
  have hs:=hC.1
  have hc:=hC.2 op.toNat (by omega)
  have E:Hid (_∧_∧_∧_):=Lib.hid (And.intro b1 (And.intro b2 (And.intro b3 b4)))
  clear b1 b2 b3 b4 hC
  generalize codeAt op.toNat=c at*
  go_enter func38,ntmps38
  go_wp2
  obtain⟨b1,b2,b3,b4⟩:=E.out
  rw[b1,b2,b3,b4]
  exact bodyPost_ret (v:= .agg #[.int .u32 (1048576*(Z9 op).1),.int .u64 (Z9 op).2.1,.int .u64 (Z9 op).2.2.1,.int .u64 (Z9 op).2.2.2]) (by simp[results,results38,go_sem]) rfl ⟨rfl,by repeat (first|exact Nw.refl _|apply Nw.alloc)⟩
theorem ZM{wc w':World}{n:Nat}{o:Obj}(hn:Nw wc w')(h:wc.heap[n]? =some o):w'.heap[n]? =some o:=by
 have hl:n<wc.heap.size:=lt_of_block h
 exact(hn.1.block n hl).trans h
theorem Z0(w:World)(o:Obj){W:World}{n:Nat}(hW:w.alloc o=W)(hn:w.heap.size=n):W.heap[n]? =some o:=by
 subst hW hn;exact heap_alloc_new w o
theorem Yg{w:World}{n:Nat}{t:TypeId}{v0 v1 v2 v3:Value}(h:w.heap[n]? =some (.cells #[v0,v1,v2,v3] t (0,0))):
  n<w.heap.size∧w.cell? ⟨n,0,.none⟩=some v0∧w.cell? ⟨n,1,.none⟩=some v1∧w.cell? ⟨n,2,.none⟩=some v2∧w.cell? ⟨n,3,.none⟩=some v3:=
 ⟨lt_of_block h,cell_of_row _ _ 0 _ _ _ h,cell_of_row _ _ 1 _ _ _ h,cell_of_row _ _ 2 _ _ _ h,cell_of_row _ _ 3 _ _ _ h⟩
theorem Z24{w:World}{n:Nat}{t:TypeId}{cs:Array Value}(h:w.heap[n]? =some (.cells cs t (0,0))):
  w.frozen? ⟨n,0,.none⟩=false∧w.frozen? ⟨n,1,.none⟩=false∧w.frozen? ⟨n,2,.none⟩=false∧w.frozen? ⟨n,3,.none⟩=false:=
 ⟨frozen_of_row _ _ 0 _ _ h,frozen_of_row _ _ 1 _ _ h,frozen_of_row _ _ 2 _ _ h,frozen_of_row _ _ 3 _ _ h⟩
theorem X2{w:World}{n:Nat}{t:TypeId}{v0 v1 v2 v3 v4:Value}(h:w.heap[n]? =some (.cells #[v0,v1,v2,v3,v4] t (0,0))):
  n<w.heap.size∧w.cell? ⟨n,0,.none⟩=some v0∧w.cell? ⟨n,1,.none⟩=some v1∧w.cell? ⟨n,2,.none⟩=some v2∧w.cell? ⟨n,3,.none⟩=some v3∧w.cell? ⟨n,4,.none⟩=some v4:=
 ⟨lt_of_block h,cell_of_row _ _ 0 _ _ _ h,cell_of_row _ _ 1 _ _ _ h,cell_of_row _ _ 2 _ _ _ h,cell_of_row _ _ 3 _ _ _ h,cell_of_row _ _ 4 _ _ _ h⟩
theorem Z4{w:World}{n:Nat}{t:TypeId}{v0 v1 v2 v3 v4 v5 v6:Value}(h:w.heap[n]? =some (.cells #[v0,v1,v2,v3,v4,v5,v6] t (0,0))):
  n<w.heap.size∧w.cell? ⟨n,0,.none⟩=some v0∧w.cell? ⟨n,1,.none⟩=some v1∧w.cell? ⟨n,2,.none⟩=some v2∧w.cell? ⟨n,3,.none⟩=some v3∧w.cell? ⟨n,4,.none⟩=some v4∧w.cell? ⟨n,5,.none⟩=some v5∧w.cell? ⟨n,6,.none⟩=some v6:=
 ⟨lt_of_block h,cell_of_row _ _ 0 _ _ _ h,cell_of_row _ _ 1 _ _ _ h,cell_of_row _ _ 2 _ _ _ h,cell_of_row _ _ 3 _ _ _ h,cell_of_row _ _ 4 _ _ _ h,cell_of_row _ _ 5 _ _ _ h,cell_of_row _ _ 6 _ _ _ h⟩
theorem Nw.setRow{a b:World}(h:Nw a b){g:Nat}(hg:a.heap.size≤g)(cs:Array Value){old:Array Value}{t:TypeId}{fr:Nat×Nat}(ho:b.heap[g]? =some (.cells old t fr)):Nw a (b.setRow g cs):=by
 obtain⟨hb,⟨h1,h2,h3⟩,hf,hs⟩:=h
 refine⟨⟨hb.os,hb.tape,hb.output,by rw[size_setRow];exact hb.size,fun k hk=>(setRow_other b g k cs (by omega)).trans (hb.block k hk)⟩,⟨h1,h2,fun i hi=> ?_⟩,fun x=> ?_,by rw[size_setRow];exact hs⟩
 ·rw[setRow_other b g i cs (by omega)];exact h3 i hi
 ·rw[←hf x]
  by_cases e:x.block=g
  ·have h4:=setRow_heap b g old cs t fr ho
   simp[World.frozen?,e,ho,h4]
  ·have:(b.setRow g cs).heap[x.block]? =b.heap[x.block]? :=setRow_other b g x.block cs e
   simp[World.frozen?,this]
theorem Z44{w wc w':World}{n:Nat}{v0 v1 v2 v3:Value}(hn:Nw wc w')(h:Nw w wc∧n<wc.heap.size∧wc.cell? ⟨n,0,.none⟩=some v0∧wc.cell? ⟨n,1,.none⟩=some v1∧wc.cell? ⟨n,2,.none⟩=some v2∧wc.cell? ⟨n,3,.none⟩=some v3):
  Nw w w'∧n<w'.heap.size∧w'.cell? ⟨n,0,.none⟩=some v0∧w'.cell? ⟨n,1,.none⟩=some v1∧w'.cell? ⟨n,2,.none⟩=some v2∧w'.cell? ⟨n,3,.none⟩=some v3:=by
 obtain⟨h0,h1,c0,c1,c2,c3⟩:=h
 have k:=fun o=>hn.cells n o h1
 exact⟨h0.trans hn,Nat.lt_of_lt_of_le h1 hn.size,(k 0).trans c0,(k 1).trans c1,(k 2).trans c2,(k 3).trans c3⟩
theorem Z1i(w:World)(v0 v1 v2 v3:Value)(t:TypeId){W:World}{n:Nat}(hW:w.alloc (.cells #[v0,v1,v2,v3] t)=W)(hn:w.heap.size=n):
  Nw w W∧n<W.heap.size∧W.cell? ⟨n,0,.none⟩=some v0∧W.cell? ⟨n,1,.none⟩=some v1∧W.cell? ⟨n,2,.none⟩=some v2∧W.cell? ⟨n,3,.none⟩=some v3:=by
 subst hW hn
 exact⟨(Nw.refl _).alloc _ _,by simp,World.cell?_alloc_at _ _ _ 0 rfl,World.cell?_alloc_at _ _ _ 1 rfl,World.cell?_alloc_at _ _ _ 2 rfl,World.cell?_alloc_at _ _ _ 3 rfl⟩
theorem JG{w wc w':World}{n:Nat}{v0 v1 v2 v3 v4 v5 v6:Value}(hn:Nw wc w')(h:Nw w wc∧n<wc.heap.size∧wc.cell? ⟨n,0,.none⟩=some v0∧wc.cell? ⟨n,1,.none⟩=some v1∧wc.cell? ⟨n,2,.none⟩=some v2∧wc.cell? ⟨n,3,.none⟩=some v3∧wc.cell? ⟨n,4,.none⟩=some v4∧wc.cell? ⟨n,5,.none⟩=some v5∧wc.cell? ⟨n,6,.none⟩=some v6):
  Nw w w'∧n<w'.heap.size∧w'.cell? ⟨n,0,.none⟩=some v0∧w'.cell? ⟨n,1,.none⟩=some v1∧w'.cell? ⟨n,2,.none⟩=some v2∧w'.cell? ⟨n,3,.none⟩=some v3∧w'.cell? ⟨n,4,.none⟩=some v4∧w'.cell? ⟨n,5,.none⟩=some v5∧w'.cell? ⟨n,6,.none⟩=some v6:=by
 obtain⟨h0,h1,c0,c1,c2,c3,c4,c5,c6⟩:=h
 have k:=fun o=>hn.cells n o h1
 exact⟨h0.trans hn,Nat.lt_of_lt_of_le h1 hn.size,(k 0).trans c0,(k 1).trans c1,(k 2).trans c2,(k 3).trans c3,(k 4).trans c4,(k 5).trans c5,(k 6).trans c6⟩
theorem KD(w:World)(v0 v1 v2 v3 v4 v5 v6:Value)(t:TypeId){W:World}{n:Nat}(hW:w.alloc (.cells #[v0,v1,v2,v3,v4,v5,v6] t)=W)(hn:w.heap.size=n):
  Nw w W∧n<W.heap.size∧W.cell? ⟨n,0,.none⟩=some v0∧W.cell? ⟨n,1,.none⟩=some v1∧W.cell? ⟨n,2,.none⟩=some v2∧W.cell? ⟨n,3,.none⟩=some v3∧W.cell? ⟨n,4,.none⟩=some v4∧W.cell? ⟨n,5,.none⟩=some v5∧W.cell? ⟨n,6,.none⟩=some v6:=by
 subst hW hn
 exact⟨(Nw.refl _).alloc _ _,by simp,World.cell?_alloc_at _ _ _ 0 rfl,World.cell?_alloc_at _ _ _ 1 rfl,World.cell?_alloc_at _ _ _ 2 rfl,World.cell?_alloc_at _ _ _ 3 rfl,World.cell?_alloc_at _ _ _ 4 rfl,World.cell?_alloc_at _ _ _ 5 rfl,World.cell?_alloc_at _ _ _ 6 rfl⟩
def Wd (f o a b:Int):Int:=Put (f7T f) (Put (f3T f) (Plc 0 0 7 o) a) b
theorem wd_any(f o a b:Int)(f0:0≤f)(f1:f≤12)(o0:0≤o)(o1:o<18446744073709551616)(a0:0≤a)(a1:a<18446744073709551616)(b0:0≤b)(b1:b<18446744073709551616)(w:World):
  Calls prog 39 #[.agg #[.int .u32 (1048576*f),.int .u64 o,.int .u64 a,.int .u64 b]] w fun e w'=>e=.returned (.int .u64 (Wd f o a b))∧Nw w w':=by
 go_enter func39,ntmps39
 go_wp2_with fail
 obtain⟨W1,hW⟩:∃W1,w.alloc (.cells #[.int .u32 (1048576*f),.int .u64 o,.int .u64 a,.int .u64 b] 88)=W1:=⟨_,rfl⟩
 have hS:=Z1i w _ _ _ _ 88 hW rfl
 rw[hW]
 clear hW
 refine(YX _ _ _ _ (by decide) (by decide) o0 o1 _).mono ?_
 rintro e w'⟨rfl,q,rfl⟩
 obtain⟨p0,p1⟩:=Jh 0 0 7 o (by decide) (by decide)
 have hS2:=Z44 ((Nw.refl W1).drewN q) hS
 clear hS
 generalize W1.drewN q=W2 at*
 obtain⟨n1,n2,c0,c1,c2,c3⟩:=hS2
 go_wp2_with fail
 go_region_held3 (fun w'=>Nw w w'∧w.heap.size<w'.heap.size∧w'.cell? ⟨w.heap.size,0,.none⟩=some (.int .u32 (1048576*f))∧w'.cell? ⟨w.heap.size,1,.none⟩=some (.int .u64 o)∧w'.cell? ⟨w.heap.size,2,.none⟩=some (.int .u64 a)∧w'.cell? ⟨w.heap.size,3,.none⟩=some (.int .u64 b))
  (first|(exact Z44 (by assumption) (by assumption))|(exact⟨n1.drew,n2,c0,c1,c2,c3⟩))
  (first
   |(go_at_call 77;refine(Z40 f f0 f1 _).mono ?_;rintro e w'⟨rfl,hn⟩)
   |(go_at_call 78;refine(Kf _ _ _ _ _ p0 p1 a0 a1 _).mono ?_;rintro e w'⟨rfl,hn2⟩))
 rename_i hH
 clear n1 n2 c0 c1 c2 c3 hn hn2
 obtain⟨n1,n2,c0,c1,c2,c3⟩:=hH
 obtain⟨r0,r1⟩:=Z2x (f3T f) (Plc 0 0 7 o) a p0 p1
 go_wp2_with fail
 go_region_held3 (fun w'=>Nw w w'∧w.heap.size<w'.heap.size∧w'.cell? ⟨w.heap.size,0,.none⟩=some (.int .u32 (1048576*f))∧w'.cell? ⟨w.heap.size,1,.none⟩=some (.int .u64 o)∧w'.cell? ⟨w.heap.size,2,.none⟩=some (.int .u64 a)∧w'.cell? ⟨w.heap.size,3,.none⟩=some (.int .u64 b))
  (first|(exact Z44 (by assumption) (by assumption))|(exact⟨n1.drew,n2,c0,c1,c2,c3⟩))
  (first
   |(go_at_call 79;refine(Z41 f f0 f1 _).mono ?_;rintro e w'⟨rfl,hn⟩)
   |(go_at_call 78;refine(Kf _ _ _ _ _ r0 r1 b0 b1 _).mono ?_;rintro e w'⟨rfl,hn2⟩))
 rename_i hH
 clear n1 n2 c0 c1 c2 c3 hn hn2
 have hN:=hH.1
 clear hH
 go_wp2_with fail
 go_ret
 exact⟨rfl,hN⟩
end Go.Proofs.YtgpdpaljbiclkaaGreatDoor
end
section
namespace Go.Proofs.YtgpdpaljbiclkaaGreatDoor
open Tryz
open Go.RowKit
set_option linter.unusedVariables false
def Bi (b:Bool):Int:=if b=true then 1 else 0
theorem bi_w(b:Bool):0≤Bi b∧Bi b<18446744073709551616:=by cases b<;>decide
theorem Z1j(b:Bool)(w:World):Calls prog 80 #[.bool b] w fun e w'=>e=.returned (.int .u64 (Bi b))∧w=w':=Z60 b w
def FW (rd rs1 rs2:Int) (aq rl:Bool):Int:=Plc (Plc (Plc (Plc (Plc 0 7 5 rd) 15 5 rs1) 20 5 rs2) 25 1 (Bi rl)) 26 1 (Bi aq)
theorem fw_any(op rd rs1 rs2 im:Int)(aq rl:Bool)(a0:0≤rd)(a1:rd≤31)(b0:0≤rs1)(b1:rs1≤31)(c0:0≤rs2)(c1:rs2≤31)(w:World):
  Calls prog 40 #[.agg #[.int .i64 op,.int .i64 rd,.int .i64 rs1,.int .i64 rs2,.int .i64 im,.bool aq,.bool rl]] w fun e w'=>e=.returned (.int .u64 (FW rd rs1 rs2 aq rl))∧Nw w w':=by
 go_enter func40,ntmps40
 obtain⟨p0,p1⟩:=Jh 0 7 5 rd (by decide) (by decide)
 obtain⟨q0,q1⟩:=Jh (Plc 0 7 5 rd) 15 5 rs1 p0 p1
 obtain⟨r0,r1⟩:=Jh (Plc (Plc 0 7 5 rd) 15 5 rs1) 20 5 rs2 q0 q1
 obtain⟨s0,s1⟩:=Jh (Plc (Plc (Plc 0 7 5 rd) 15 5 rs1) 20 5 rs2) 25 1 (Bi rl) r0 r1
 obtain⟨t0,t1⟩:=bi_w rl
 obtain⟨u0,u1⟩:=bi_w aq
 go_wp2_with fail
 refine(YX _ _ _ _ (by decide) (by decide) a0 (by omega) _).mono ?_
 rintro e w'⟨rfl,k1,rfl⟩
 go_wp2_with fail
 refine(YX _ _ _ _ p0 p1 b0 (by omega) _).mono ?_
 rintro e w'⟨rfl,k2,rfl⟩
 go_wp2_with fail
 refine(YX _ _ _ _ q0 q1 c0 (by omega) _).mono ?_
 rintro e w'⟨rfl,k3,rfl⟩
 go_wp2_with fail
 refine(Z1j _ _).mono ?_
 rintro e w'⟨rfl,rfl⟩
 go_wp2_with fail
 refine(YX _ _ _ _ r0 r1 t0 t1 _).mono ?_
 rintro e w'⟨rfl,k4,rfl⟩
 go_wp2_with fail
 refine(Z1j _ _).mono ?_
 rintro e w'⟨rfl,rfl⟩
 go_wp2_with fail
 refine(YX _ _ _ _ s0 s1 u0 u1 _).mono ?_
 rintro e w'⟨rfl,k5,rfl⟩
 go_wp2_with fail
 go_ret
 exact⟨rfl,((Nw.refl _).alloc _ _).drewN _⟩
def IW (f u:Int):Int:=Put (YB f) (Put (Yz f) (Put (Yy f) (Put (Yx f) 0 u) u) u) u
theorem iw_any(f v:Int)(f0:0≤f)(f1:f≤12)(w:World):
  Calls prog 41 #[.int .u32 (1048576*f),.int .i64 v] w fun e w'=>e=.returned (.int .u64 (IW f (IntKind.u64.wrap v)))∧Nw w w':=by
 obtain⟨u0,u1⟩:0≤IntKind.u64.wrap v∧IntKind.u64.wrap v<18446744073709551616:=by rw[IntKind.wrap_u64];omega
 go_enter func41,ntmps41
 go_wp2_with fail
 refine(Z42 f f0 f1 _).mono ?_
 rintro e w1⟨rfl,hn⟩
 have i0:∀W,(Instr.index 119 (.agg #[.int .i64 (Yx f).1,.int .i64 (Yx f).2.1,.int .i64 (Yx f).2.2,.int .i64 (Yy f).1,.int .i64 (Yy f).2.1,.int .i64 (Yy f).2.2,.int .i64 (Yz f).1,.int .i64 (Yz f).2.1,.int .i64 (Yz f).2.2,.int .i64 (YB f).1,.int .i64 (YB f).2.1,.int .i64 (YB f).2.2]) (.int .i64 0)).run prog W=.ok (.agg #[.int .i64 (Yx f).1,.int .i64 (Yx f).2.1,.int .i64 (Yx f).2.2]) W:=fun _=>by kernel_rfl
 have i1:∀W,(Instr.index 119 (.agg #[.int .i64 (Yx f).1,.int .i64 (Yx f).2.1,.int .i64 (Yx f).2.2,.int .i64 (Yy f).1,.int .i64 (Yy f).2.1,.int .i64 (Yy f).2.2,.int .i64 (Yz f).1,.int .i64 (Yz f).2.1,.int .i64 (Yz f).2.2,.int .i64 (YB f).1,.int .i64 (YB f).2.1,.int .i64 (YB f).2.2]) (.int .i64 1)).run prog W=.ok (.agg #[.int .i64 (Yy f).1,.int .i64 (Yy f).2.1,.int .i64 (Yy f).2.2]) W:=fun _=>by kernel_rfl
 have i2:∀W,(Instr.index 119 (.agg #[.int .i64 (Yx f).1,.int .i64 (Yx f).2.1,.int .i64 (Yx f).2.2,.int .i64 (Yy f).1,.int .i64 (Yy f).2.1,.int .i64 (Yy f).2.2,.int .i64 (Yz f).1,.int .i64 (Yz f).2.1,.int .i64 (Yz f).2.2,.int .i64 (YB f).1,.int .i64 (YB f).2.1,.int .i64 (YB f).2.2]) (.int .i64 2)).run prog W=.ok (.agg #[.int .i64 (Yz f).1,.int .i64 (Yz f).2.1,.int .i64 (Yz f).2.2]) W:=fun _=>by kernel_rfl
 have i3:∀W,(Instr.index 119 (.agg #[.int .i64 (Yx f).1,.int .i64 (Yx f).2.1,.int .i64 (Yx f).2.2,.int .i64 (Yy f).1,.int .i64 (Yy f).2.1,.int .i64 (Yy f).2.2,.int .i64 (Yz f).1,.int .i64 (Yz f).2.1,.int .i64 (Yz f).2.2,.int .i64 (YB f).1,.int .i64 (YB f).2.1,.int .i64 (YB f).2.2]) (.int .i64 3)).run prog W=.ok (.agg #[.int .i64 (YB f).1,.int .i64 (YB f).2.1,.int .i64 (YB f).2.2]) W:=fun _=>by kernel_rfl
 obtain⟨a0,a1⟩:=Z2x (Yx f) 0 (IntKind.u64.wrap v) (by decide) (by decide)
 obtain⟨b0,b1⟩:=Z2x (Yy f) _ (IntKind.u64.wrap v) a0 a1
 obtain⟨c0,c1⟩:=Z2x (Yz f) _ (IntKind.u64.wrap v) b0 b1
 go_wp2_with fail
 refine wp_loop_rounds 5 ?_
 rw[rounds_succ]
 go_wp2_with fail
 refine(Kf _ _ _ _ _ (by decide) (by decide) u0 u1 _).mono ?_
 rintro e x0⟨rfl,h1⟩
 go_wp2_with fail
 rw[rounds_succ]
 go_wp2_with fail
 refine(Kf _ _ _ _ _ a0 a1 u0 u1 _).mono ?_
 rintro e x1⟨rfl,h2⟩
 go_wp2_with fail
 rw[rounds_succ]
 go_wp2_with fail
 refine(Kf _ _ _ _ _ b0 b1 u0 u1 _).mono ?_
 rintro e x2⟨rfl,h3⟩
 go_wp2_with fail
 rw[rounds_succ]
 go_wp2_with fail
 refine(Kf _ _ _ _ _ c0 c1 u0 u1 _).mono ?_
 rintro e x3⟨rfl,h4⟩
 go_wp2_with fail
 rw[rounds_succ]
 go_wp2_with fail
 go_ret
 exact⟨rfl,(((((((hn.alloc _ _).trans h1).alloc _ _).trans h2).alloc _ _).trans h3).alloc _ _).trans h4⟩
def IG (f u:Int):Int:=Get (YB f) (Get (Yz f) (Get (Yy f) (Get (Yx f) 0 u) u) u) u
def II (f u:Int):Int:=wrap64 (Sgn (IG f u) (sgT f))
theorem ii_any(f u:Int)(f0:0≤f)(f1:f≤12)(u0:0≤u)(u1:u<18446744073709551616)(w:World):
  Calls prog 117 #[.int .u32 (1048576*f),.int .u64 u] w fun e w'=>e=.returned (.int .i64 (II f u))∧Nw w w':=by
 go_enter func117,ntmps117
 go_wp2_with fail
 refine(Z42 f f0 f1 _).mono ?_
 rintro e w1⟨rfl,hn⟩
 have i0:∀W,(Instr.index 119 (.agg #[.int .i64 (Yx f).1,.int .i64 (Yx f).2.1,.int .i64 (Yx f).2.2,.int .i64 (Yy f).1,.int .i64 (Yy f).2.1,.int .i64 (Yy f).2.2,.int .i64 (Yz f).1,.int .i64 (Yz f).2.1,.int .i64 (Yz f).2.2,.int .i64 (YB f).1,.int .i64 (YB f).2.1,.int .i64 (YB f).2.2]) (.int .i64 0)).run prog W=.ok (.agg #[.int .i64 (Yx f).1,.int .i64 (Yx f).2.1,.int .i64 (Yx f).2.2]) W:=fun _=>by kernel_rfl
 have i1:∀W,(Instr.index 119 (.agg #[.int .i64 (Yx f).1,.int .i64 (Yx f).2.1,.int .i64 (Yx f).2.2,.int .i64 (Yy f).1,.int .i64 (Yy f).2.1,.int .i64 (Yy f).2.2,.int .i64 (Yz f).1,.int .i64 (Yz f).2.1,.int .i64 (Yz f).2.2,.int .i64 (YB f).1,.int .i64 (YB f).2.1,.int .i64 (YB f).2.2]) (.int .i64 1)).run prog W=.ok (.agg #[.int .i64 (Yy f).1,.int .i64 (Yy f).2.1,.int .i64 (Yy f).2.2]) W:=fun _=>by kernel_rfl
 have i2:∀W,(Instr.index 119 (.agg #[.int .i64 (Yx f).1,.int .i64 (Yx f).2.1,.int .i64 (Yx f).2.2,.int .i64 (Yy f).1,.int .i64 (Yy f).2.1,.int .i64 (Yy f).2.2,.int .i64 (Yz f).1,.int .i64 (Yz f).2.1,.int .i64 (Yz f).2.2,.int .i64 (YB f).1,.int .i64 (YB f).2.1,.int .i64 (YB f).2.2]) (.int .i64 2)).run prog W=.ok (.agg #[.int .i64 (Yz f).1,.int .i64 (Yz f).2.1,.int .i64 (Yz f).2.2]) W:=fun _=>by kernel_rfl
 have i3:∀W,(Instr.index 119 (.agg #[.int .i64 (Yx f).1,.int .i64 (Yx f).2.1,.int .i64 (Yx f).2.2,.int .i64 (Yy f).1,.int .i64 (Yy f).2.1,.int .i64 (Yy f).2.2,.int .i64 (Yz f).1,.int .i64 (Yz f).2.1,.int .i64 (Yz f).2.2,.int .i64 (YB f).1,.int .i64 (YB f).2.1,.int .i64 (YB f).2.2]) (.int .i64 3)).run prog W=.ok (.agg #[.int .i64 (YB f).1,.int .i64 (YB f).2.1,.int .i64 (YB f).2.2]) W:=fun _=>by kernel_rfl
 obtain⟨a0,a1⟩:=Z2y (Yx f) 0 u (by decide) (by decide)
 obtain⟨b0,b1⟩:=Z2y (Yy f) _ u a0 a1
 obtain⟨c0,c1⟩:=Z2y (Yz f) _ u b0 b1
 obtain⟨d0,d1⟩:=Z2y (YB f) _ u c0 c1
 go_wp2_with fail
 refine wp_loop_rounds 5 ?_
 rw[rounds_succ]
 go_wp2_with fail
 refine(Kg _ _ _ _ _ u0 u1 (by decide) (by decide) _).mono ?_
 rintro e x0⟨rfl,h1⟩
 go_wp2_with fail
 rw[rounds_succ]
 go_wp2_with fail
 refine(Kg _ _ _ _ _ u0 u1 a0 a1 _).mono ?_
 rintro e x1⟨rfl,h2⟩
 go_wp2_with fail
 rw[rounds_succ]
 go_wp2_with fail
 refine(Kg _ _ _ _ _ u0 u1 b0 b1 _).mono ?_
 rintro e x2⟨rfl,h3⟩
 go_wp2_with fail
 rw[rounds_succ]
 go_wp2_with fail
 refine(Kg _ _ _ _ _ u0 u1 c0 c1 _).mono ?_
 rintro e x3⟨rfl,h4⟩
 go_wp2_with fail
 rw[rounds_succ]
 go_wp2_with fail
 refine(sg_any f f0 f1 _).mono ?_
 rintro e w'⟨rfl,rfl⟩
 go_wp2_with fail
 refine(Zr _ _ d0 d1 _).mono ?_
 rintro e w'⟨rfl,rfl⟩
 go_wp2_with fail
 go_ret
 exact⟨rfl,(((((((hn.alloc _ _).trans h1).alloc _ _).trans h2).alloc _ _).trans h3).alloc _ _).trans h4⟩
theorem Z25(f u:Int)(f0:0≤f)(f1:f≤12)(u0:0≤u)(u1:u<18446744073709551616)(w:World):
  Calls prog 83 #[.int .u32 (1048576*f),.int .u64 u] w fun e w'=>e=.returned (.agg #[.int .u32 (1048576*f),.int .u64 (Fld u 0 7),.int .u64 (Get (f3T f) 0 u),.int .u64 (Get (f7T f) 0 u)])∧Nw w w':=by
 go_enter func83,ntmps83
 go_wp2_with fail
 obtain⟨W1,hW⟩:∃W1,w.alloc (.cells #[.int .u32 0,.int .u64 0,.int .u64 0,.int .u64 0] 88)=W1:=⟨_,rfl⟩
 have hb:=Z0 w _ hW rfl
 have hN:Nw w W1:=by rw[←hW];exact(Nw.refl _).alloc _ _
 rw[hW]
 clear hW
 refine(ZE _ _ _ u0 u1 _).mono ?_
 rintro e w'⟨rfl,rfl⟩
 go_wp2_with fail
 refine(Z40 f f0 f1 _).mono ?_
 rintro e w2⟨rfl,k2⟩
 go_wp2_with fail
 refine(Kg _ _ _ _ _ u0 u1 (by decide) (by decide) _).mono ?_
 rintro e w3⟨rfl,k3⟩
 go_wp2_with fail
 refine(Z41 f f0 f1 _).mono ?_
 rintro e w4⟨rfl,k4⟩
 go_wp2_with fail
 refine(Kg _ _ _ _ _ u0 u1 (by decide) (by decide) _).mono ?_
 rintro e w5⟨rfl,k5⟩
 have hK:=((k2.trans k3).trans k4).trans k5
 have hb5:=ZM hK hb
 have hN5:=hN.trans hK
 have hl:=lt_of_block hb5
 have c0:=cell_of_row _ _ 0 _ _ _ hb5
 have c1:=cell_of_row _ _ 1 _ _ _ hb5
 have c2:=cell_of_row _ _ 2 _ _ _ hb5
 have c3:=cell_of_row _ _ 3 _ _ _ hb5
 have z0:=frozen_of_row _ _ 0 _ _ hb5
 have z1:=frozen_of_row _ _ 1 _ _ hb5
 have z2:=frozen_of_row _ _ 2 _ _ hb5
 have z3:=frozen_of_row _ _ 3 _ _ hb5
 simp only[List.getElem?_toArray,List.getElem?_cons_zero,List.getElem?_cons_succ] at c0 c1 c2 c3
 clear hb hb5 k2 k3 k4 k5 hK hN
 go_wp2_with fail
 exact bodyPost_ret (v:= .agg #[.int .u32 (1048576*f),.int .u64 (Fld u 0 7),.int .u64 (Get (f3T f) 0 u),.int .u64 (Get (f7T f) 0 u)]) (by simp[results,results83,go_sem,c0,c1,c2,c3]) rfl
  ⟨rfl,(((hN5.setCell (Nat.le_refl _) _).setCell (Nat.le_refl _) _).setCell (Nat.le_refl _) _).setCell (Nat.le_refl _) _⟩
end Go.Proofs.YtgpdpaljbiclkaaGreatDoor
end
section
namespace Go.Proofs.YtgpdpaljbiclkaaGreatDoor
open Tryz
open Go.RowKit
set_option linter.unusedVariables false
theorem fi_0(w:World):Calls prog 112 #[.int .u32 0] w fun e w'=>e=.returned (.agg #[.bool false,.bool false,.bool false,.bool false,.bool false])∧Nw w w':=by
 go_enter func112,ntmps112
 go_wp2
 exact bodyPost_ret (v:= .agg #[.bool false,.bool false,.bool false,.bool false,.bool false]) (by simp[results,results112,go_sem]) rfl ⟨rfl,by repeat (first|exact Nw.refl _|apply Nw.alloc)⟩
theorem fi_1(w:World):Calls prog 112 #[.int .u32 1048576] w fun e w'=>e=.returned (.agg #[.bool true,.bool false,.bool false,.bool true,.bool false])∧Nw w w':=by
 go_enter func112,ntmps112
 go_wp2
 exact bodyPost_ret (v:= .agg #[.bool true,.bool false,.bool false,.bool true,.bool false]) (by simp[results,results112,go_sem]) rfl ⟨rfl,by repeat (first|exact Nw.refl _|apply Nw.alloc)⟩
theorem fi_2(w:World):Calls prog 112 #[.int .u32 2097152] w fun e w'=>e=.returned (.agg #[.bool true,.bool false,.bool false,.bool true,.bool false])∧Nw w w':=by
 go_enter func112,ntmps112
 go_wp2
 exact bodyPost_ret (v:= .agg #[.bool true,.bool false,.bool false,.bool true,.bool false]) (by simp[results,results112,go_sem]) rfl ⟨rfl,by repeat (first|exact Nw.refl _|apply Nw.alloc)⟩
theorem fi_3(w:World):Calls prog 112 #[.int .u32 3145728] w fun e w'=>e=.returned (.agg #[.bool true,.bool true,.bool false,.bool true,.bool false])∧Nw w w':=by
 go_enter func112,ntmps112
 go_wp2
 exact bodyPost_ret (v:= .agg #[.bool true,.bool true,.bool false,.bool true,.bool false]) (by simp[results,results112,go_sem]) rfl ⟨rfl,by repeat (first|exact Nw.refl _|apply Nw.alloc)⟩
theorem fi_4(w:World):Calls prog 112 #[.int .u32 4194304] w fun e w'=>e=.returned (.agg #[.bool false,.bool true,.bool true,.bool true,.bool false])∧Nw w w':=by
 go_enter func112,ntmps112
 go_wp2
 exact bodyPost_ret (v:= .agg #[.bool false,.bool true,.bool true,.bool true,.bool false]) (by simp[results,results112,go_sem]) rfl ⟨rfl,by repeat (first|exact Nw.refl _|apply Nw.alloc)⟩
theorem fi_5(w:World):Calls prog 112 #[.int .u32 5242880] w fun e w'=>e=.returned (.agg #[.bool false,.bool true,.bool true,.bool true,.bool false])∧Nw w w':=by
 go_enter func112,ntmps112
 go_wp2
 exact bodyPost_ret (v:= .agg #[.bool false,.bool true,.bool true,.bool true,.bool false]) (by simp[results,results112,go_sem]) rfl ⟨rfl,by repeat (first|exact Nw.refl _|apply Nw.alloc)⟩
theorem fi_6(w:World):Calls prog 112 #[.int .u32 6291456] w fun e w'=>e=.returned (.agg #[.bool true,.bool true,.bool false,.bool true,.bool false])∧Nw w w':=by
 go_enter func112,ntmps112
 go_wp2
 exact bodyPost_ret (v:= .agg #[.bool true,.bool true,.bool false,.bool true,.bool false]) (by simp[results,results112,go_sem]) rfl ⟨rfl,by repeat (first|exact Nw.refl _|apply Nw.alloc)⟩
theorem fi_7(w:World):Calls prog 112 #[.int .u32 7340032] w fun e w'=>e=.returned (.agg #[.bool true,.bool true,.bool false,.bool true,.bool false])∧Nw w w':=by
 go_enter func112,ntmps112
 go_wp2
 exact bodyPost_ret (v:= .agg #[.bool true,.bool true,.bool false,.bool true,.bool false]) (by simp[results,results112,go_sem]) rfl ⟨rfl,by repeat (first|exact Nw.refl _|apply Nw.alloc)⟩
theorem fi_8(w:World):Calls prog 112 #[.int .u32 8388608] w fun e w'=>e=.returned (.agg #[.bool true,.bool true,.bool true,.bool false,.bool false])∧Nw w w':=by
 go_enter func112,ntmps112
 go_wp2
 exact bodyPost_ret (v:= .agg #[.bool true,.bool true,.bool true,.bool false,.bool false]) (by simp[results,results112,go_sem]) rfl ⟨rfl,by repeat (first|exact Nw.refl _|apply Nw.alloc)⟩
theorem fi_9(w:World):Calls prog 112 #[.int .u32 9437184] w fun e w'=>e=.returned (.agg #[.bool false,.bool false,.bool false,.bool true,.bool false])∧Nw w w':=by
 go_enter func112,ntmps112
 go_wp2
 exact bodyPost_ret (v:= .agg #[.bool false,.bool false,.bool false,.bool true,.bool false]) (by simp[results,results112,go_sem]) rfl ⟨rfl,by repeat (first|exact Nw.refl _|apply Nw.alloc)⟩
theorem fi_10(w:World):Calls prog 112 #[.int .u32 10485760] w fun e w'=>e=.returned (.agg #[.bool false,.bool false,.bool false,.bool false,.bool false])∧Nw w w':=by
 go_enter func112,ntmps112
 go_wp2
 exact bodyPost_ret (v:= .agg #[.bool false,.bool false,.bool false,.bool false,.bool false]) (by simp[results,results112,go_sem]) rfl ⟨rfl,by repeat (first|exact Nw.refl _|apply Nw.alloc)⟩
theorem fi_11(w:World):Calls prog 112 #[.int .u32 11534336] w fun e w'=>e=.returned (.agg #[.bool true,.bool true,.bool false,.bool false,.bool true])∧Nw w w':=by
 go_enter func112,ntmps112
 go_wp2
 exact bodyPost_ret (v:= .agg #[.bool true,.bool true,.bool false,.bool false,.bool true]) (by simp[results,results112,go_sem]) rfl ⟨rfl,by repeat (first|exact Nw.refl _|apply Nw.alloc)⟩
theorem fi_12(w:World):Calls prog 112 #[.int .u32 12582912] w fun e w'=>e=.returned (.agg #[.bool true,.bool true,.bool true,.bool false,.bool true])∧Nw w w':=by
 go_enter func112,ntmps112
 go_wp2
 exact bodyPost_ret (v:= .agg #[.bool true,.bool true,.bool true,.bool false,.bool true]) (by simp[results,results112,go_sem]) rfl ⟨rfl,by repeat (first|exact Nw.refl _|apply Nw.alloc)⟩
theorem hs_0(w:World):Calls prog 92 #[.int .i64 0] w fun e w'=>e=.returned (.agg #[.bool false,.bool false,.bool false,.bool false,.bool false])∧Nw w w':=by
 go_enter func92,ntmps92
 go_wp2
 exact bodyPost_ret (v:= .agg #[.bool false,.bool false,.bool false,.bool false,.bool false]) (by simp[results,results92,go_sem]) rfl ⟨rfl,by repeat (first|exact Nw.refl _|apply Nw.alloc)⟩
theorem hs_1(w:World):Calls prog 92 #[.int .i64 1] w fun e w'=>e=.returned (.agg #[.bool true,.bool false,.bool false,.bool true,.bool false])∧Nw w w':=by
 go_enter func92,ntmps92
 go_wp2
 exact bodyPost_ret (v:= .agg #[.bool true,.bool false,.bool false,.bool true,.bool false]) (by simp[results,results92,go_sem]) rfl ⟨rfl,by repeat (first|exact Nw.refl _|apply Nw.alloc)⟩
theorem hs_2(w:World):Calls prog 92 #[.int .i64 2] w fun e w'=>e=.returned (.agg #[.bool true,.bool false,.bool false,.bool true,.bool false])∧Nw w w':=by
 go_enter func92,ntmps92
 go_wp2
 exact bodyPost_ret (v:= .agg #[.bool true,.bool false,.bool false,.bool true,.bool false]) (by simp[results,results92,go_sem]) rfl ⟨rfl,by repeat (first|exact Nw.refl _|apply Nw.alloc)⟩
theorem hs_3(w:World):Calls prog 92 #[.int .i64 3] w fun e w'=>e=.returned (.agg #[.bool true,.bool true,.bool false,.bool true,.bool false])∧Nw w w':=by
 go_enter func92,ntmps92
 go_wp2
 exact bodyPost_ret (v:= .agg #[.bool true,.bool true,.bool false,.bool true,.bool false]) (by simp[results,results92,go_sem]) rfl ⟨rfl,by repeat (first|exact Nw.refl _|apply Nw.alloc)⟩
theorem hs_4(w:World):Calls prog 92 #[.int .i64 4] w fun e w'=>e=.returned (.agg #[.bool false,.bool true,.bool true,.bool true,.bool false])∧Nw w w':=by
 go_enter func92,ntmps92
 go_wp2
 exact bodyPost_ret (v:= .agg #[.bool false,.bool true,.bool true,.bool true,.bool false]) (by simp[results,results92,go_sem]) rfl ⟨rfl,by repeat (first|exact Nw.refl _|apply Nw.alloc)⟩
theorem hs_5(w:World):Calls prog 92 #[.int .i64 5] w fun e w'=>e=.returned (.agg #[.bool false,.bool true,.bool true,.bool true,.bool false])∧Nw w w':=by
 go_enter func92,ntmps92
 go_wp2
 exact bodyPost_ret (v:= .agg #[.bool false,.bool true,.bool true,.bool true,.bool false]) (by simp[results,results92,go_sem]) rfl ⟨rfl,by repeat (first|exact Nw.refl _|apply Nw.alloc)⟩
theorem hs_6(w:World):Calls prog 92 #[.int .i64 6] w fun e w'=>e=.returned (.agg #[.bool true,.bool true,.bool false,.bool true,.bool false])∧Nw w w':=by
 go_enter func92,ntmps92
 go_wp2
 exact bodyPost_ret (v:= .agg #[.bool true,.bool true,.bool false,.bool true,.bool false]) (by simp[results,results92,go_sem]) rfl ⟨rfl,by repeat (first|exact Nw.refl _|apply Nw.alloc)⟩
theorem hs_7(w:World):Calls prog 92 #[.int .i64 7] w fun e w'=>e=.returned (.agg #[.bool true,.bool true,.bool false,.bool true,.bool false])∧Nw w w':=by
 go_enter func92,ntmps92
 go_wp2
 exact bodyPost_ret (v:= .agg #[.bool true,.bool true,.bool false,.bool true,.bool false]) (by simp[results,results92,go_sem]) rfl ⟨rfl,by repeat (first|exact Nw.refl _|apply Nw.alloc)⟩
theorem hs_8(w:World):Calls prog 92 #[.int .i64 8] w fun e w'=>e=.returned (.agg #[.bool true,.bool true,.bool true,.bool false,.bool false])∧Nw w w':=by
 go_enter func92,ntmps92
 go_wp2
 exact bodyPost_ret (v:= .agg #[.bool true,.bool true,.bool true,.bool false,.bool false]) (by simp[results,results92,go_sem]) rfl ⟨rfl,by repeat (first|exact Nw.refl _|apply Nw.alloc)⟩
theorem hs_9(w:World):Calls prog 92 #[.int .i64 9] w fun e w'=>e=.returned (.agg #[.bool false,.bool false,.bool false,.bool true,.bool false])∧Nw w w':=by
 go_enter func92,ntmps92
 go_wp2
 exact bodyPost_ret (v:= .agg #[.bool false,.bool false,.bool false,.bool true,.bool false]) (by simp[results,results92,go_sem]) rfl ⟨rfl,by repeat (first|exact Nw.refl _|apply Nw.alloc)⟩
theorem hs_10(w:World):Calls prog 92 #[.int .i64 10] w fun e w'=>e=.returned (.agg #[.bool false,.bool false,.bool false,.bool false,.bool false])∧Nw w w':=by
 go_enter func92,ntmps92
 go_wp2
 exact bodyPost_ret (v:= .agg #[.bool false,.bool false,.bool false,.bool false,.bool false]) (by simp[results,results92,go_sem]) rfl ⟨rfl,by repeat (first|exact Nw.refl _|apply Nw.alloc)⟩
theorem hs_11(w:World):Calls prog 92 #[.int .i64 11] w fun e w'=>e=.returned (.agg #[.bool true,.bool true,.bool false,.bool false,.bool true])∧Nw w w':=by
 go_enter func92,ntmps92
 go_wp2
 exact bodyPost_ret (v:= .agg #[.bool true,.bool true,.bool false,.bool false,.bool true]) (by simp[results,results92,go_sem]) rfl ⟨rfl,by repeat (first|exact Nw.refl _|apply Nw.alloc)⟩
theorem hs_12(w:World):Calls prog 92 #[.int .i64 12] w fun e w'=>e=.returned (.agg #[.bool true,.bool true,.bool true,.bool false,.bool true])∧Nw w w':=by
 go_enter func92,ntmps92
 go_wp2
 exact bodyPost_ret (v:= .agg #[.bool true,.bool true,.bool true,.bool false,.bool true]) (by simp[results,results92,go_sem]) rfl ⟨rfl,by repeat (first|exact Nw.refl _|apply Nw.alloc)⟩
theorem hs_any(f:Int)(h0:0≤f)(h1:f≤12)(w:World):Calls prog 92 #[.int .i64 f] w fun e w'=>e=.returned (.agg #[.bool (rdT f),.bool (YP f),.bool (YQ f),.bool (Zp f),.bool (ZX f)])∧Nw w w':=by
 obtain⟨n,rfl⟩:=Int.eq_ofNat_of_zero_le h0
 match n,h1 with
 |0,_=>exact hs_0 w
 |1,_=>exact hs_1 w
 |2,_=>exact hs_2 w
 |3,_=>exact hs_3 w
 |4,_=>exact hs_4 w
 |5,_=>exact hs_5 w
 |6,_=>exact hs_6 w
 |7,_=>exact hs_7 w
 |8,_=>exact hs_8 w
 |9,_=>exact hs_9 w
 |10,_=>exact hs_10 w
 |11,_=>exact hs_11 w
 |12,_=>exact hs_12 w
 |n+13,h=>exact absurd h (by omega)
end Go.Proofs.YtgpdpaljbiclkaaGreatDoor
end

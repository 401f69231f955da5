/-
  Proved here: what a hart's step is, as a plain function on its registers and bytes, and what a word decodes to. Conditions: none. ¦ what moved, fetched and following of the code answer. Conditions: the memory is one that a call made, of at most 2^24 bytes; the table of codes holds what its text lays. ¦ what fetched and following of the code answer. Conditions: the memory is one that a call made, of at most 2^24 bytes; the table of codes holds what its text lays. ¦ what done of the code answers. Conditions: the hart's numbers are words; the memory is one that a call made, of at most 2^24 bytes; the table of codes holds what its text lays.
-/
import Derived.Test.YtgpdpaljbiclkaaGreatDoorSzz
import Derived.Test.YtgpdpaljbiclkaaGreatDoorSaa
import Derived.Test.YtgpdpaljbiclkaaGreatDoorSbc
import Derived.Test.YtgpdpaljbiclkaaGreatDoorSbd
import Derived.Test.YtgpdpaljbiclkaaGreatDoorSbe
import Derived.Test.YtgpdpaljbiclkaaGreatDoorSbf
import Derived.Test.YtgpdpaljbiclkaaGreatDoorSah
import Derived.Deep.RegionHeld3
set_option maxHeartbeats 2000000
set_option maxRecDepth 100000
section
namespace Go.Proofs.YtgpdpaljbiclkaaGreatDoor
open _root_.Go.Proofs.Tryz
open Go.RowKit
set_option linter.unusedVariables false
set_option linter.unusedSimpArgs false
abbrev In7:=Int×Int×Int×Int×Int×Bool×Bool
def i7A (i:In7):Value:= .agg #[.int .i64 i.1,.int .i64 i.2.1,.int .i64 i.2.2.1,.int .i64 i.2.2.2.1,.int .i64 i.2.2.2.2.1,.bool i.2.2.2.2.2.1,.bool i.2.2.2.2.2.2]
def z7:In7:=(0,0,0,0,0,false,false)
structure HV where
 pc:Int
 x:List Int
 held:Bool
 addr:Int
 size:Int
def hC (h:HV):List Value:= .int .u64 h.pc::(xV h.x++[.bool h.held,.int .u64 h.addr,.int .i64 h.size])
def hA (h:HV):Value:= .agg (hC h).toArray
structure HOk (h:HV):Prop where
 len:h.x.length=32
 pc:InU h.pc
 x:∀v ∈ h.x,InU v
 addr:InU h.addr
 size: -9223372036854775808≤h.size∧h.size<9223372036854775808
theorem Zv{h:HV}(k:h.x.length=32):(hC h).length=36:=by simp[hC,YW,k]
theorem ZI(h:HV):∀v ∈ hC h,v.oneCell'=true:=by
 intro v hv
 unfold hC at hv
 rcases List.mem_cons.1 hv with rfl|hv
 ·rfl
 ·rcases List.mem_append.1 hv with hv|hv
  ·exact Z1X _ v hv
  ·simp at hv
   rcases hv with rfl|rfl|rfl<;>rfl
def Xy (u:Int):Option In7:=(((List.range 87).map (· +1)).find? fun (k:Nat)=>Yh k u).map fun (k:Nat)=>((k:Int),Ird k u,X8 k u,X9 k u,Iim k u,Iaq k u,Irl k u)
theorem Z2d(p:Nat→Bool)(n k:Nat)(h1:1≤k)(h2:k≤n)(hp:p k=true)(hn:∀j,1≤j→j<k→p j=false):((List.range n).map (· +1)).find? p=some k:=by
 rw[List.find?_eq_some_iff_append]
 refine⟨hp,(List.range (k-1)).map (· +1),((List.range (n-k)).map (· +(k+1))),?_,?_⟩
 ·apply List.ext_getElem
  ·simp;omega
  ·intro i h3 h4
   simp only[List.length_map,List.length_range] at h3
   rcases Nat.lt_trichotomy i (k-1) with h|h|h
   ·rw[List.getElem_append_left (by simpa using h)];simp
   ·subst h
    rw[List.getElem_append_right (by simp)]
    simp;omega
   ·rw[List.getElem_append_right (by simp;omega)]
    simp only[List.length_map,List.length_range]
    rw[List.getElem_cons,dif_neg (by omega)]
    simp;omega
 ·intro a ha
  simp at ha
  obtain⟨j,hj,rfl⟩:=ha
  simp[hn (j+1) (by omega) (by omega)]
theorem Z3x(p:Nat→Bool)(n:Nat)(hn:∀j,1≤j→j<n+1→p j=false):((List.range n).map (· +1)).find? p=none:=by
 rw[List.find?_eq_none]
 intro a ha
 simp at ha
 obtain⟨j,hj,rfl⟩:=ha
 simp[hn (j+1) (by omega) (by omega)]
theorem JX{u:Int}{e:Ending}(h:Z27 u e):e=.returned (.tuple #[i7A ((Xy u).getD z7),.int .i64 (if (Xy u).isSome=true then 0 else 21)]):=by
 rcases h with⟨k,h1,h2,h3,h4,rfl⟩|⟨h1,rfl⟩
 ·unfold Xy
  rw[Z2d (fun k=>Yh k u) 87 k h1 (by omega) h3 h4]
  rfl
 ·unfold Xy
  rw[Z3x (fun k=>Yh k u) 87 h1]
  rfl
theorem Z1E{u:Int}{i:In7}(h:Xy u=some i):GoodB i.1 i.2.1 i.2.2.1 i.2.2.2.1 i.2.2.2.2.1 i.2.2.2.2.2.1 i.2.2.2.2.2.2=true∧(-9223372036854775808≤i.2.2.2.2.1∧i.2.2.2.2.1<9223372036854775808):=by
 unfold Xy at h
 rw[Option.map_eq_some_iff] at h
 obtain⟨k,hk,rfl⟩:=h
 have hm:=List.find?_some hk
 refine⟨?_,YI k u⟩
 unfold Yh at hm
 simp only[Bool.and_eq_true] at hm
 exact hm.2.2.1
def fetS (bs:By) (pc:Int):In7×Int:=
 if flt bs.length pc 4=0 then(match Xy (IntKind.u32.wrap (ldV bs pc 4)) with
  |none=>(z7,21)
  |some i=>if i.1=51∨i.1=52 then(z7,60) else(i,0))
 else(z7,flt bs.length pc 4)
def Yv (i:In7) (pc a b:Int):Int:=if BrB i.1=true∧TkB i.1 i.2.1 i.2.2.1 i.2.2.2.1 i.2.2.2.2.1 i.2.2.2.2.2.1 i.2.2.2.2.2.2 a b=false then IntKind.u64.wrap (pc+4) else TgB i.1 i.2.2.2.2.1 pc a
def ZO (op at_ s b:Int) (bs:By):Int×Int×By:=
 if (Zz op=true→flt bs.length at_ s=0)∧Zq op=true then(if Zz op=true then ldV bs at_ s else 0,flt bs.length at_ s,stB bs at_ s (StB op (if Zz op=true then ldV bs at_ s else 0) b))
 else(if Zz op=true then ldV bs at_ s else 0,if Zz op=true then flt bs.length at_ s else 0,bs)
def ZC (h:HV) (i:In7) (a b:Int) (bs:By):HV×Int×Int×By:=
 if Zz i.1=false∧Zq i.1=false then(h,VX i.1 i.2.1 i.2.2.1 i.2.2.2.1 i.2.2.2.2.1 i.2.2.2.2.2.1 i.2.2.2.2.2.2 h.pc a b,0,bs)
 else
  if i.1=66∨i.1=77 then({h with held:=true,addr:=AdB i.1 i.2.2.2.2.1 a,size:=Za i.1},LdB i.1 (ZO i.1 (AdB i.1 i.2.2.2.2.1 a) (Za i.1) b bs).1,(ZO i.1 (AdB i.1 i.2.2.2.2.1 a) (Za i.1) b bs).2)
  else if i.1=67∨i.1=78 then
   if h.held=true∧h.addr=AdB i.1 i.2.2.2.2.1 a∧h.size=Za i.1 then({h with held:=false,addr:=0,size:=0},LdB i.1 (ZO i.1 (AdB i.1 i.2.2.2.2.1 a) (Za i.1) b bs).1,(ZO i.1 (AdB i.1 i.2.2.2.2.1 a) (Za i.1) b bs).2)
   else({h with held:=false,addr:=0,size:=0},1,0,bs)
  else(h,LdB i.1 (ZO i.1 (AdB i.1 i.2.2.2.2.1 a) (Za i.1) b bs).1,(ZO i.1 (AdB i.1 i.2.2.2.2.1 a) (Za i.1) b bs).2)
def stepS (h:HV) (bs:By):HV×Int×By:=
 if (fetS bs h.pc).2=0 then
  (if (ZC h (fetS bs h.pc).1 (rg h.x (fetS bs h.pc).1.2.2.1.toNat) (rg h.x (fetS bs h.pc).1.2.2.2.1.toNat) bs).2.2.1=0 then
   ({(ZC h (fetS bs h.pc).1 (rg h.x (fetS bs h.pc).1.2.2.1.toNat) (rg h.x (fetS bs h.pc).1.2.2.2.1.toNat) bs).1 with
     pc:=Yv (fetS bs h.pc).1 h.pc (rg h.x (fetS bs h.pc).1.2.2.1.toNat) (rg h.x (fetS bs h.pc).1.2.2.2.1.toNat),
     x:=(h.x.set (fetS bs h.pc).1.2.1.toNat (ZC h (fetS bs h.pc).1 (rg h.x (fetS bs h.pc).1.2.2.1.toNat) (rg h.x (fetS bs h.pc).1.2.2.2.1.toNat) bs).2.1).set 0 0},
    0,(ZC h (fetS bs h.pc).1 (rg h.x (fetS bs h.pc).1.2.2.1.toNat) (rg h.x (fetS bs h.pc).1.2.2.2.1.toNat) bs).2.2.2)
  else(h,(ZC h (fetS bs h.pc).1 (rg h.x (fetS bs h.pc).1.2.2.1.toNat) (rg h.x (fetS bs h.pc).1.2.2.2.1.toNat) bs).2.2.1,(ZC h (fetS bs h.pc).1 (rg h.x (fetS bs h.pc).1.2.2.1.toNat) (rg h.x (fetS bs h.pc).1.2.2.2.1.toNat) bs).2.2.2))
 else(h,(fetS bs h.pc).2,bs)
theorem Z5g{bs:By}{pc:Int}(h:(fetS bs pc).2=0):∃i,(fetS bs pc).1=i∧GoodB i.1 i.2.1 i.2.2.1 i.2.2.2.1 i.2.2.2.2.1 i.2.2.2.2.2.1 i.2.2.2.2.2.2=true∧(-9223372036854775808≤i.2.2.2.2.1∧i.2.2.2.2.1<9223372036854775808)∧i.1≠51∧i.1≠52:=by
 unfold fetS at h ⊢
 split at h
 ·rename_i h0
  rw[if_pos h0]
  cases hq:Xy (IntKind.u32.wrap (ldV bs pc 4)) with
  |none=>rw[hq] at h;cases h
  |some i=>
   rw[hq] at h
   simp only at h ⊢
   split at h
   ·cases h
   ·rename_i h1
    rw[if_neg h1]
    obtain⟨g1,g2⟩:=Z1E hq
    exact⟨i,rfl,g1,g2,by omega,by omega⟩
 ·rename_i h0
  exact absurd h h0
theorem Zx{w w1 w2:World}{q:Nat}(h:Below w.heap.size w w1)(k:w1.grownBy w2 (some q)):w.grownBy w2 (some q):=
 ⟨k.os.trans h.os,k.tape.trans h.tape,k.output.trans h.output,Nat.le_trans h.size k.size,fun i hi hr=>(k.block i (Nat.lt_of_lt_of_le hi h.size) hr).trans (h.block i hi)⟩
end Go.Proofs.YtgpdpaljbiclkaaGreatDoor
end
section
namespace Go.Proofs.YtgpdpaljbiclkaaGreatDoor
open _root_.Go.Proofs.Tryz
open Go.RowKit
set_option linter.unusedVariables false
set_option linter.unusedSimpArgs false
theorem st_in(op old b:Int):InU (StB op old b):=by
 unfold StB
 split
 ·unfold Fld InU
  have:=Z5 (CgB op old b).toNat (0:Int).toNat (wid 0 (8*Za op))
  have h2:(2:Nat) ^ (wid 0 (8*Za op))≤2 ^ 64:=Nat.pow_le_pow_right (by omega) (by have:=Xp op;unfold wid;split<;>omega)
  omega
 ·unfold InU;omega
theorem Xj(op at_ s b:Int)(p q:Nat)(bs:By)(ha:InU at_)(hb:InU b)(hl:bs.length≤16777216)(w:World)(hM:Mem 85 w p q bs):
  Calls prog 53 #[.int .i64 op,.int .u64 at_,.int .i64 s,.int .u64 b,.pointer (some ⟨p,0,none⟩)] w fun e w'=>
   e=.returned (.tuple #[.int .u64 (ZO op at_ s b bs).1,.int .i64 (ZO op at_ s b bs).2.1])∧Mem 85 w' p q (ZO op at_ s b bs).2.2∧w.grownBy w' (some q):=by
 have HL:=Lib.hid (Z18 p q bs at_ s ha.1 ha.2 hl w hM)
 have h1:=Lib.hid (ZZ op)
 have h2:=Lib.hid (Y4 op)
 have hld:=Yl bs at_ s
 cases hL:Zz op with
 |true=>
  rw[hL] at h1
  cases hS:Zq op with
  |true=>
   rw[hS] at h2
   by_cases hf:flt bs.length at_ s=0
   ·have HT:=Lib.hid (Z5f op (ldV bs at_ s) b hld hb)
    have e0:=Lib.hid (show ZO op at_ s b bs=(ldV bs at_ s,0,stB bs at_ s (StB op (ldV bs at_ s) b)) by unfold ZO;simp[hL,hS,hf])
    have HW:=Lib.hid fun w1 h=>KY p q bs at_ s (StB op (ldV bs at_ s) b) ha.1 ha.2 (st_in _ _ _).1 hl w1 h
    rw[hf] at HL HW
    rw[e0.out]
    generalize StB op (ldV bs at_ s) b=st at*
    generalize ldV bs at_ s=old at*
    clear hf hL hS
    go_enter func53,ntmps53
    go_wp2_with fail
    refine(h1.out _).mono ?_
    rintro e w'⟨rfl,rfl⟩
    go_wp2_with fail
    refine(HL.out).mono ?_
    rintro e w'⟨rfl,rfl⟩
    go_wp2_with fail
    refine(h2.out _).mono ?_
    rintro e w'⟨rfl,rfl⟩
    go_wp2_with fail
    refine(HT.out _).mono ?_
    rintro e w1⟨rfl,hn⟩
    go_wp2_with fail
    refine(HW.out w1 (hM.nb hn)).mono ?_
    rintro e w2⟨rfl,hM2,hg⟩
    go_wp2_with fail
    go_ret2
    exact⟨rfl,hM2,Zx hn hg⟩
   ·have e0:=Lib.hid (show ZO op at_ s b bs=(ldV bs at_ s,flt bs.length at_ s,bs) by unfold ZO;simp[hL,hS,hf])
    have hf2:(flt bs.length at_ s==0)=false:=nB hf
    rw[e0.out]
    generalize flt bs.length at_ s=E at*
    generalize ldV bs at_ s=old at*
    clear hf hL hS
    go_enter func53,ntmps53
    go_wp2_with fail
    refine(h1.out _).mono ?_
    rintro e w'⟨rfl,rfl⟩
    go_wp2_with fail
    refine(HL.out).mono ?_
    rintro e w'⟨rfl,rfl⟩
    go_wp2_with fail
    go_ret2
    exact⟨rfl,hM,World.grownBy.refl w _⟩
  |false=>
   rw[hS] at h2
   have e0:=Lib.hid (show ZO op at_ s b bs=(ldV bs at_ s,flt bs.length at_ s,bs) by unfold ZO;simp[hL,hS])
   rw[e0.out]
   by_cases hf:flt bs.length at_ s=0
   ·rw[hf] at HL ⊢
    generalize ldV bs at_ s=old at*
    clear hf hL hS
    go_enter func53,ntmps53
    go_wp2_with fail
    refine(h1.out _).mono ?_
    rintro e w'⟨rfl,rfl⟩
    go_wp2_with fail
    refine(HL.out).mono ?_
    rintro e w'⟨rfl,rfl⟩
    go_wp2_with fail
    refine(h2.out _).mono ?_
    rintro e w'⟨rfl,rfl⟩
    go_wp2_with fail
    go_ret2
    exact⟨rfl,hM,World.grownBy.refl w _⟩
   ·have hf2:(flt bs.length at_ s==0)=false:=nB hf
    generalize flt bs.length at_ s=E at*
    generalize ldV bs at_ s=old at*
    clear hf hL hS
    go_enter func53,ntmps53
    go_wp2_with fail
    refine(h1.out _).mono ?_
    rintro e w'⟨rfl,rfl⟩
    go_wp2_with fail
    refine(HL.out).mono ?_
    rintro e w'⟨rfl,rfl⟩
    go_wp2_with fail
    go_ret2
    exact⟨rfl,hM,World.grownBy.refl w _⟩
 |false=>
  rw[hL] at h1
  clear HL
  cases hS:Zq op with
  |true=>
   rw[hS] at h2
   have HT:=Lib.hid (Z5f op 0 b ⟨by omega,by omega⟩ hb)
   have e0:=Lib.hid (show ZO op at_ s b bs=(0,flt bs.length at_ s,stB bs at_ s (StB op 0 b)) by unfold ZO;simp[hL,hS])
   have HW:=Lib.hid fun w1 h=>KY p q bs at_ s (StB op 0 b) ha.1 ha.2 (st_in _ _ _).1 hl w1 h
   rw[e0.out]
   generalize StB op 0 b=st at*
   generalize flt bs.length at_ s=E at*
   clear hL hS
   go_enter func53,ntmps53
   go_wp2_with fail
   refine(h1.out _).mono ?_
   rintro e w'⟨rfl,rfl⟩
   go_wp2_with fail
   refine(h2.out _).mono ?_
   rintro e w'⟨rfl,rfl⟩
   go_wp2_with fail
   refine(HT.out _).mono ?_
   rintro e w1⟨rfl,hn⟩
   go_wp2_with fail
   refine(HW.out w1 (hM.nb hn)).mono ?_
   rintro e w2⟨rfl,hM2,hg⟩
   go_wp2_with fail
   go_ret2
   exact⟨rfl,hM2,Zx hn hg⟩
  |false=>
   rw[hS] at h2
   have e0:=Lib.hid (show ZO op at_ s b bs=(0,0,bs) by unfold ZO;simp[hL,hS])
   rw[e0.out]
   clear hL hS
   go_enter func53,ntmps53
   go_wp2_with fail
   refine(h1.out _).mono ?_
   rintro e w'⟨rfl,rfl⟩
   go_wp2_with fail
   refine(h2.out _).mono ?_
   rintro e w'⟨rfl,rfl⟩
   go_wp2_with fail
   go_ret2
   exact⟨rfl,hM,World.grownBy.refl w _⟩
end Go.Proofs.YtgpdpaljbiclkaaGreatDoor
end
section
namespace Go.Proofs.YtgpdpaljbiclkaaGreatDoor
open _root_.Go.Proofs.Tryz
open Go.RowKit
set_option linter.unusedVariables false
set_option linter.unusedSimpArgs false
theorem Z0P{fn:Func}{p u:Tmp}{ty:TypeId}{P:Program}(h:fn.results= #[.cell p ty,.tmp u])(tmps:Array Value)(w:World)(g:Nat)(cs:Array Value)
  (hp:tmps.getD p undef=.pointer (some ⟨g,0,none⟩)) (hl:(loadVar ty ⟨g,0,none⟩).run P w=.ok (.agg cs) w):
  (results fn tmps).run P w=.ok (.tuple #[.agg cs,tmps.getD u undef]) w:=by
 rw[results_cell_tmp h,hp]
 have e:(asAddr (.pointer (some ⟨g,0,none⟩))).run P w=.ok ⟨g,0,none⟩ w:=rfl
 rw[e]
 simp only[Result.andThen_ok,hl]
theorem X3:(Tryz.prog.info? 50).map (·.size)=some 7:=by kernel_rfl
theorem Kq{w W1:World}{old:Array Value}(hb:Nb w W1)(k0:W1.heap[w.heap.size]? =some (.cells old 50 (0,0)))(tmps:Array Value)(i:In7)(E:Int)(hp:tmps.getD 4 undef=.pointer (some ⟨w.heap.size,0,none⟩))(h5:tmps.getD 5 undef=.int .i64 E):
  bodyPost prog Tryz.f21 (fun e w'=>e=.returned (.tuple #[i7A i,.int .i64 E])∧Nb w w') Exit.ret {tmps:=tmps,defers:=[]} (W1.setRow w.heap.size #[.int .i64 i.1,.int .i64 i.2.1,.int .i64 i.2.2.1,.int .i64 i.2.2.2.1,.int .i64 i.2.2.2.2.1,.bool i.2.2.2.2.2.1,.bool i.2.2.2.2.2.2]):=by
 have k2:=setRow_heap W1 w.heap.size _ #[.int .i64 i.1,.int .i64 i.2.1,.int .i64 i.2.2.1,.int .i64 i.2.2.2.1,.int .i64 i.2.2.2.2.1,.bool i.2.2.2.2.2.1,.bool i.2.2.2.2.2.2] 50 _ k0
 refine bodyPost_ret (Z0P rfl _ _ w.heap.size _ hp (run_loadVar_row _ _ _ _ _ (0,0) _ k2 underlying50 rfl (by rw[X3];rfl))) rfl ⟨by rw[h5];rfl,below_setRow hb (Nat.le_refl _) _⟩
theorem K7(pc:Int)(p q:Nat)(bs:By)(hp:InU pc)(hl:bs.length≤16777216)(w:World)(hC:Cod w)(hM:Mem 85 w p q bs):
  Calls prog 21 #[.int .u64 pc,.pointer (some ⟨p,0,none⟩)] w fun e w'=>e=.returned (.tuple #[i7A (fetS bs pc).1,.int .i64 (fetS bs pc).2])∧Nb w w':=by
 have HL:=Lib.hid fun w1 h=>Z18 p q bs pc 4 hp.1 hp.2 hl w1 h
 have hld:=Yl bs pc 4
 have hlt:=hM.lt
 by_cases hf:flt bs.length pc 4=0
 ·have HD:=Lib.hid fun w1 h=>Z6j (IntKind.u32.wrap (ldV bs pc 4)) (by rw[IntKind.wrap_u32];omega) (by rw[IntKind.wrap_u32];omega) w1 h
  rw[hf] at HL
  cases hq0:Xy (IntKind.u32.wrap (ldV bs pc 4)) with
  |none=>
   have e0:=Lib.hid (show fetS bs pc=(z7,21) by unfold fetS;rw[if_pos hf,hq0])
   have hq:=hq0
   rw[e0.out]
   clear hf
   go_enter func21,ntmps21
   go_upto_region 1 with(fail)
   obtain⟨W1,h1⟩:∃W1,w.alloc (Obj.cells #[.int .i64 0,.int .i64 0,.int .i64 0,.int .i64 0,.int .i64 0,.bool false,.bool false] 50)=W1:=⟨_,rfl⟩
   have n1:Nb w W1:=by rw[←h1];exact(Nb.refl _).alloc _
   have k0:W1.heap[w.heap.size]? =some (.cells #[.int .i64 0,.int .i64 0,.int .i64 0,.int .i64 0,.int .i64 0,.bool false,.bool false] 50 (0,0)):=by rw[←h1];exact Zd _ _ rfl
   rw[h1]
   clear h1
   go_wp2_with fail
   refine(HL.out W1 (hM.nb n1)).mono ?_
   rintro e w'⟨rfl,rfl⟩
   go_wp2_with fail
   refine(HD.out W1 (hC.of_nb n1)).mono ?_
   rintro e w2⟨ha,n2⟩
   obtain rfl:=JX ha
   clear ha
   rw[hq]
   simp only[i7A,Option.getD_none,Option.isSome_none,z7]
   go_upto_region 5 with(fail)
   obtain⟨W3,h3⟩:∃W3,w2.alloc (Obj.cells #[.int .i64 0,.int .i64 0,.int .i64 0,.int .i64 0,.int .i64 0,.bool false,.bool false] 50)=W3:=⟨_,rfl⟩
   have n3:Nb w2 W3:=by rw[←h3];exact(Nb.refl _).alloc _
   have k3:W3.heap[w2.heap.size]? =some (.cells #[.int .i64 0,.int .i64 0,.int .i64 0,.int .i64 0,.int .i64 0,.bool false,.bool false] 50 (0,0)):=by rw[←h3];exact Zd _ _ rfl
   rw[h3]
   clear h3
   have k4:=n3.block (n2.block k0)
   have nn:=(n1.trans n2).trans n3
   clear k3 n3
   go_wp2_with (refine wpList_store_row rfl 50 (.tmp 4) (.tmp 27) rfl w.heap.size #[.int .i64 0,.int .i64 0,.int .i64 0,.int .i64 0,.int .i64 0,.bool false,.bool false] rfl rfl 50 _ k4 (by kernel_rfl) rfl (by kernel_rfl) ?_)
   exact Kq nn k4 _ z7 21 rfl rfl
  |some i=>
   have hq:=hq0
   by_cases c51:i.1=51
   ·have e0:=Lib.hid (show fetS bs pc=(z7,60) by unfold fetS;rw[if_pos hf,hq0];exact if_pos (.inl c51))
    have d51:(i.1==51)=true:=beq_iff_eq.2 c51
    rw[e0.out]
    clear hf c51
    go_enter func21,ntmps21
    go_upto_region 1 with(fail)
    obtain⟨W1,h1⟩:∃W1,w.alloc (Obj.cells #[.int .i64 0,.int .i64 0,.int .i64 0,.int .i64 0,.int .i64 0,.bool false,.bool false] 50)=W1:=⟨_,rfl⟩
    have n1:Nb w W1:=by rw[←h1];exact(Nb.refl _).alloc _
    have k0:W1.heap[w.heap.size]? =some (.cells #[.int .i64 0,.int .i64 0,.int .i64 0,.int .i64 0,.int .i64 0,.bool false,.bool false] 50 (0,0)):=by rw[←h1];exact Zd _ _ rfl
    rw[h1]
    clear h1
    go_wp2_with fail
    refine(HL.out W1 (hM.nb n1)).mono ?_
    rintro e w'⟨rfl,rfl⟩
    go_wp2_with fail
    refine(HD.out W1 (hC.of_nb n1)).mono ?_
    rintro e w2⟨ha,n2⟩
    obtain rfl:=JX ha
    clear ha
    rw[hq]
    simp only[i7A,Option.getD_some,Option.isSome_some,if_true]
    go_upto_region 5 with(fail)
    obtain⟨W3,h3⟩:∃W3,w2.alloc (Obj.cells #[.int .i64 i.1,.int .i64 i.2.1,.int .i64 i.2.2.1,.int .i64 i.2.2.2.1,.int .i64 i.2.2.2.2.1,.bool i.2.2.2.2.2.1,.bool i.2.2.2.2.2.2] 50)=W3:=⟨_,rfl⟩
    have n3:Nb w2 W3:=by rw[←h3];exact(Nb.refl _).alloc _
    have k3:W3.heap[w2.heap.size]? =some (.cells #[.int .i64 i.1,.int .i64 i.2.1,.int .i64 i.2.2.1,.int .i64 i.2.2.2.1,.int .i64 i.2.2.2.2.1,.bool i.2.2.2.2.2.1,.bool i.2.2.2.2.2.2] 50 (0,0)):=by rw[←h3];exact Zd _ _ rfl
    rw[h3]
    clear h3
    have k4:=n3.block (n2.block k0)
    have nn:=(n1.trans n2).trans n3
    obtain⟨zz,c0,c1,c2,c3,c4,c5,c6⟩:=Z4 k3
    clear k3 n3
    go_wp2_with (refine wpList_store_row rfl 50 (.tmp 4) (.tmp 37) rfl w.heap.size #[.int .i64 0,.int .i64 0,.int .i64 0,.int .i64 0,.int .i64 0,.bool false,.bool false] rfl rfl 50 _ k4 (by kernel_rfl) rfl (by kernel_rfl) ?_)
    exact Kq nn k4 _ z7 60 rfl rfl
   by_cases c52:i.1=52
   ·have e0:=Lib.hid (show fetS bs pc=(z7,60) by unfold fetS;rw[if_pos hf,hq0];exact if_pos (.inr c52))
    have d51:(i.1==51)=false:=nB c51
    have d52:(i.1==52)=true:=beq_iff_eq.2 c52
    rw[e0.out]
    clear hf c51 c52
    go_enter func21,ntmps21
    go_upto_region 1 with(fail)
    obtain⟨W1,h1⟩:∃W1,w.alloc (Obj.cells #[.int .i64 0,.int .i64 0,.int .i64 0,.int .i64 0,.int .i64 0,.bool false,.bool false] 50)=W1:=⟨_,rfl⟩
    have n1:Nb w W1:=by rw[←h1];exact(Nb.refl _).alloc _
    have k0:W1.heap[w.heap.size]? =some (.cells #[.int .i64 0,.int .i64 0,.int .i64 0,.int .i64 0,.int .i64 0,.bool false,.bool false] 50 (0,0)):=by rw[←h1];exact Zd _ _ rfl
    rw[h1]
    clear h1
    go_wp2_with fail
    refine(HL.out W1 (hM.nb n1)).mono ?_
    rintro e w'⟨rfl,rfl⟩
    go_wp2_with fail
    refine(HD.out W1 (hC.of_nb n1)).mono ?_
    rintro e w2⟨ha,n2⟩
    obtain rfl:=JX ha
    clear ha
    rw[hq]
    simp only[i7A,Option.getD_some,Option.isSome_some,if_true]
    go_upto_region 5 with(fail)
    obtain⟨W3,h3⟩:∃W3,w2.alloc (Obj.cells #[.int .i64 i.1,.int .i64 i.2.1,.int .i64 i.2.2.1,.int .i64 i.2.2.2.1,.int .i64 i.2.2.2.2.1,.bool i.2.2.2.2.2.1,.bool i.2.2.2.2.2.2] 50)=W3:=⟨_,rfl⟩
    have n3:Nb w2 W3:=by rw[←h3];exact(Nb.refl _).alloc _
    have k3:W3.heap[w2.heap.size]? =some (.cells #[.int .i64 i.1,.int .i64 i.2.1,.int .i64 i.2.2.1,.int .i64 i.2.2.2.1,.int .i64 i.2.2.2.2.1,.bool i.2.2.2.2.2.1,.bool i.2.2.2.2.2.2] 50 (0,0)):=by rw[←h3];exact Zd _ _ rfl
    rw[h3]
    clear h3
    have k4:=n3.block (n2.block k0)
    have nn:=(n1.trans n2).trans n3
    obtain⟨zz,c0,c1,c2,c3,c4,c5,c6⟩:=Z4 k3
    clear k3 n3
    go_wp2_with (refine wpList_store_row rfl 50 (.tmp 4) (.tmp 37) rfl w.heap.size #[.int .i64 0,.int .i64 0,.int .i64 0,.int .i64 0,.int .i64 0,.bool false,.bool false] rfl rfl 50 _ k4 (by kernel_rfl) rfl (by kernel_rfl) ?_)
    exact Kq nn k4 _ z7 60 rfl rfl
   ·have e0:=Lib.hid (show fetS bs pc=(i,0) by unfold fetS;rw[if_pos hf,hq0];exact if_neg (by omega))
    have d51:(i.1==51)=false:=nB c51
    have d52:(i.1==52)=false:=nB c52
    rw[e0.out]
    clear hf c51 c52
    go_enter func21,ntmps21
    go_upto_region 1 with(fail)
    obtain⟨W1,h1⟩:∃W1,w.alloc (Obj.cells #[.int .i64 0,.int .i64 0,.int .i64 0,.int .i64 0,.int .i64 0,.bool false,.bool false] 50)=W1:=⟨_,rfl⟩
    have n1:Nb w W1:=by rw[←h1];exact(Nb.refl _).alloc _
    have k0:W1.heap[w.heap.size]? =some (.cells #[.int .i64 0,.int .i64 0,.int .i64 0,.int .i64 0,.int .i64 0,.bool false,.bool false] 50 (0,0)):=by rw[←h1];exact Zd _ _ rfl
    rw[h1]
    clear h1
    go_wp2_with fail
    refine(HL.out W1 (hM.nb n1)).mono ?_
    rintro e w'⟨rfl,rfl⟩
    go_wp2_with fail
    refine(HD.out W1 (hC.of_nb n1)).mono ?_
    rintro e w2⟨ha,n2⟩
    obtain rfl:=JX ha
    clear ha
    rw[hq]
    simp only[i7A,Option.getD_some,Option.isSome_some,if_true]
    go_upto_region 5 with(fail)
    obtain⟨W3,h3⟩:∃W3,w2.alloc (Obj.cells #[.int .i64 i.1,.int .i64 i.2.1,.int .i64 i.2.2.1,.int .i64 i.2.2.2.1,.int .i64 i.2.2.2.2.1,.bool i.2.2.2.2.2.1,.bool i.2.2.2.2.2.2] 50)=W3:=⟨_,rfl⟩
    have n3:Nb w2 W3:=by rw[←h3];exact(Nb.refl _).alloc _
    have k3:W3.heap[w2.heap.size]? =some (.cells #[.int .i64 i.1,.int .i64 i.2.1,.int .i64 i.2.2.1,.int .i64 i.2.2.2.1,.int .i64 i.2.2.2.2.1,.bool i.2.2.2.2.2.1,.bool i.2.2.2.2.2.2] 50 (0,0)):=by rw[←h3];exact Zd _ _ rfl
    rw[h3]
    clear h3
    have k4:=n3.block (n2.block k0)
    have nn:=(n1.trans n2).trans n3
    obtain⟨zz,c0,c1,c2,c3,c4,c5,c6⟩:=Z4 k3
    go_wp2_with (refine wpList_store_row rfl 50 (.tmp 4) (.tmp 38) rfl w.heap.size #[.int .i64 i.1,.int .i64 i.2.1,.int .i64 i.2.2.1,.int .i64 i.2.2.2.1,.int .i64 i.2.2.2.2.1,.bool i.2.2.2.2.2.1,.bool i.2.2.2.2.2.2] rfl rfl 50 _ k4 (by kernel_rfl) rfl (by kernel_rfl) ?_)
    exact Kq nn k4 _ i 0 rfl rfl
 ·have e0:=Lib.hid (show fetS bs pc=(z7,flt bs.length pc 4) by unfold fetS;rw[if_neg hf])
  have hf2:(flt bs.length pc 4==0)=false:=nB hf
  rw[e0.out]
  generalize flt bs.length pc 4=E at*
  generalize ldV bs pc 4=u at*
  clear hf
  go_enter func21,ntmps21
  go_upto_region 1 with(fail)
  obtain⟨W1,h1⟩:∃W1,w.alloc (Obj.cells #[.int .i64 0,.int .i64 0,.int .i64 0,.int .i64 0,.int .i64 0,.bool false,.bool false] 50)=W1:=⟨_,rfl⟩
  have n1:Nb w W1:=by rw[←h1];exact(Nb.refl _).alloc _
  have k0:W1.heap[w.heap.size]? =some (.cells #[.int .i64 0,.int .i64 0,.int .i64 0,.int .i64 0,.int .i64 0,.bool false,.bool false] 50 (0,0)):=by rw[←h1];exact Zd _ _ rfl
  rw[h1]
  clear h1
  go_wp2_with fail
  refine(HL.out W1 (hM.nb n1)).mono ?_
  rintro e w'⟨rfl,rfl⟩
  go_wp2_with (refine wpList_store_row rfl 50 (.tmp 4) (.tmp 17) rfl w.heap.size #[.int .i64 0,.int .i64 0,.int .i64 0,.int .i64 0,.int .i64 0,.bool false,.bool false] rfl rfl 50 _ k0 (by kernel_rfl) rfl (by kernel_rfl) ?_)
  exact Kq n1 k0 _ z7 E rfl rfl
theorem Z08(i:In7)(pc a b:Int)(hi: -9223372036854775808≤i.2.2.2.2.1∧i.2.2.2.2.1<9223372036854775808)(hp:InU pc)(qa:InU a)(qb:InU b)(w:World)(hC:Cod w):
  Calls prog 24 #[i7A i,.int .u64 pc,.int .u64 a,.int .u64 b] w fun e w'=>e=.returned (.int .u64 (Yv i pc a b))∧Nb w w':=by
 have HB:=Lib.hid (Z1Y i.1)
 have HT:=Lib.hid fun w1 h=>tk_any i.1 i.2.1 i.2.2.1 i.2.2.2.1 i.2.2.2.2.1 a b i.2.2.2.2.2.1 i.2.2.2.2.2.2 qa qb hi.1 hi.2 w1 h
 have HG:=Lib.hid (Z7X i.1 i.2.1 i.2.2.1 i.2.2.2.1 i.2.2.2.2.1 pc a i.2.2.2.2.2.1 i.2.2.2.2.2.2)
 unfold i7A
 cases hb:BrB i.1 with
 |false=>
  have e0:=Lib.hid (show Yv i pc a b=TgB i.1 i.2.2.2.2.1 pc a from if_neg (by rw[hb];simp))
  rw[hb] at HB
  rw[e0.out]
  clear hb
  generalize TgB i.1 i.2.2.2.2.1 pc a=t at*
  go_enter func24,ntmps24
  go_upto_region 1 with(fail)
  obtain⟨W1,h1⟩:∃W1,w.alloc (Obj.cells #[.int .i64 i.1,.int .i64 i.2.1,.int .i64 i.2.2.1,.int .i64 i.2.2.2.1,.int .i64 i.2.2.2.2.1,.bool i.2.2.2.2.2.1,.bool i.2.2.2.2.2.2] 50)=W1:=⟨_,rfl⟩
  have n1:Nb w W1:=by rw[←h1];exact(Nb.refl _).alloc _
  have k0:W1.heap[w.heap.size]? =some (.cells #[.int .i64 i.1,.int .i64 i.2.1,.int .i64 i.2.2.1,.int .i64 i.2.2.2.1,.int .i64 i.2.2.2.2.1,.bool i.2.2.2.2.2.1,.bool i.2.2.2.2.2.2] 50 (0,0)):=by rw[←h1];exact Zd _ _ rfl
  rw[h1]
  clear h1
  obtain⟨z,c0,c1,c2,c3,c4,c5,c6⟩:=Z4 k0
  go_wp2_with fail
  refine(HB.out _).mono ?_
  rintro e w'⟨rfl,rfl⟩
  go_wp2_with fail
  refine(HG.out _).mono ?_
  rintro e w2⟨rfl,hn⟩
  go_wp2_with fail
  go_ret
  exact⟨rfl,n1.trans hn⟩
 |true=>
  cases ht:TkB i.1 i.2.1 i.2.2.1 i.2.2.2.1 i.2.2.2.2.1 i.2.2.2.2.2.1 i.2.2.2.2.2.2 a b with
  |true=>
   have e0:=Lib.hid (show Yv i pc a b=TgB i.1 i.2.2.2.2.1 pc a from if_neg (by rw[ht];simp))
   rw[hb] at HB
   rw[ht] at HT
   rw[e0.out]
   clear hb ht
   generalize TgB i.1 i.2.2.2.2.1 pc a=t at*
   go_enter func24,ntmps24
   go_upto_region 1 with(fail)
   obtain⟨W1,h1⟩:∃W1,w.alloc (Obj.cells #[.int .i64 i.1,.int .i64 i.2.1,.int .i64 i.2.2.1,.int .i64 i.2.2.2.1,.int .i64 i.2.2.2.2.1,.bool i.2.2.2.2.2.1,.bool i.2.2.2.2.2.2] 50)=W1:=⟨_,rfl⟩
   have n1:Nb w W1:=by rw[←h1];exact(Nb.refl _).alloc _
   have k0:W1.heap[w.heap.size]? =some (.cells #[.int .i64 i.1,.int .i64 i.2.1,.int .i64 i.2.2.1,.int .i64 i.2.2.2.1,.int .i64 i.2.2.2.2.1,.bool i.2.2.2.2.2.1,.bool i.2.2.2.2.2.2] 50 (0,0)):=by rw[←h1];exact Zd _ _ rfl
   rw[h1]
   clear h1
   obtain⟨z,c0,c1,c2,c3,c4,c5,c6⟩:=Z4 k0
   go_wp2_with fail
   refine(HB.out _).mono ?_
   rintro e w'⟨rfl,rfl⟩
   go_wp2_with fail
   refine(HT.out _ (hC.of_nb n1)).mono ?_
   rintro e w2⟨rfl,n2⟩
   obtain⟨z,c0,c1,c2,c3,c4,c5,c6⟩:=Z4 (n2.block k0)
   go_wp2_with fail
   refine(HG.out _).mono ?_
   rintro e w3⟨rfl,n3⟩
   go_wp2_with fail
   go_ret
   exact⟨rfl,(n1.trans n2).trans n3⟩
  |false=>
   have e0:=Lib.hid (show Yv i pc a b=IntKind.u64.wrap (pc+4) from if_pos ⟨hb,ht⟩)
   rw[hb] at HB
   rw[ht] at HT
   rw[e0.out]
   clear hb ht
   go_enter func24,ntmps24
   go_upto_region 1 with(fail)
   obtain⟨W1,h1⟩:∃W1,w.alloc (Obj.cells #[.int .i64 i.1,.int .i64 i.2.1,.int .i64 i.2.2.1,.int .i64 i.2.2.2.1,.int .i64 i.2.2.2.2.1,.bool i.2.2.2.2.2.1,.bool i.2.2.2.2.2.2] 50)=W1:=⟨_,rfl⟩
   have n1:Nb w W1:=by rw[←h1];exact(Nb.refl _).alloc _
   have k0:W1.heap[w.heap.size]? =some (.cells #[.int .i64 i.1,.int .i64 i.2.1,.int .i64 i.2.2.1,.int .i64 i.2.2.2.1,.int .i64 i.2.2.2.2.1,.bool i.2.2.2.2.2.1,.bool i.2.2.2.2.2.2] 50 (0,0)):=by rw[←h1];exact Zd _ _ rfl
   rw[h1]
   clear h1
   obtain⟨z,c0,c1,c2,c3,c4,c5,c6⟩:=Z4 k0
   go_wp2_with fail
   refine(HB.out _).mono ?_
   rintro e w'⟨rfl,rfl⟩
   go_wp2_with fail
   refine(HT.out _ (hC.of_nb n1)).mono ?_
   rintro e w2⟨rfl,n2⟩
   go_wp2_with fail
   go_ret
   exact⟨rfl,n1.trans n2⟩
end Go.Proofs.YtgpdpaljbiclkaaGreatDoor
end
section
namespace Go.Proofs.YtgpdpaljbiclkaaGreatDoor
open _root_.Go.Proofs.Tryz
open Go.RowKit
set_option linter.unusedVariables false
set_option linter.unusedSimpArgs false
theorem ZA:(Tryz.prog.info? 25).map (·.size)=some 36:=by kernel_rfl
theorem Z09(g:Nat)(cs:Array Value)(t:TypeId)(fr:Nat×Nat)(w:World)(hg:w.heap[g]? =some (.cells cs t fr))(hs:cs.size=36):(loadVar 25 ⟨g,0,none⟩).run prog w=.ok (.agg cs) w:=
 run_loadVar_row _ _ _ _ _ fr _ hg underlying25 rfl (by rw[ZA,hs])
theorem Z0Q{fn:Func}{p u v:Tmp}{ty:TypeId}{P:Program}(h:fn.results= #[.cell p ty,.tmp u,.tmp v])(tmps:Array Value)(w:World)(g:Nat)(cs:Array Value)
  (hp:tmps.getD p undef=.pointer (some ⟨g,0,none⟩)) (hl:(loadVar ty ⟨g,0,none⟩).run P w=.ok (.agg cs) w):
  (results fn tmps).run P w=.ok (.tuple #[.agg cs,tmps.getD u undef,tmps.getD v undef]) w:=by
 have e:(asAddr (.pointer (some ⟨g,0,none⟩))).run P w=.ok ⟨g,0,none⟩ w:=rfl
 simp only[results,h]
 simp only[Array.getD_eq_getD_getElem?] at hp
 simp[Sem.run_bind,Result.andThen,hp,e,hl]
def ZY (h:HV) (i:In7) (a b:Int) (bs:By) (p q:Nat) (w:World) (e:Ending) (w':World):Prop:=
 e=.returned (.tuple #[hA (ZC h i a b bs).1,.int .u64 (ZC h i a b bs).2.1,.int .i64 (ZC h i a b bs).2.2.1])∧Mem 85 w' p q (ZC h i a b bs).2.2.2∧w.grownBy w' (some q)
def Z8:Array Value:= #[.int .u64 0,.int .u64 0,.int .u64 0,.int .u64 0,.int .u64 0,.int .u64 0,.int .u64 0,.int .u64 0,.int .u64 0,.int .u64 0,.int .u64 0,.int .u64 0,.int .u64 0,.int .u64 0,.int .u64 0,.int .u64 0,.int .u64 0,.int .u64 0,.int .u64 0,.int .u64 0,.int .u64 0,.int .u64 0,.int .u64 0,.int .u64 0,.int .u64 0,.int .u64 0,.int .u64 0,.int .u64 0,.int .u64 0,.int .u64 0,.int .u64 0,.int .u64 0,.int .u64 0,.bool false,.int .u64 0,.int .i64 0]
theorem _root_.Go.Proofs.YtgpdpaljbiclkaaGreatDoor.Nb.grown_none{w w1:World}{row:Option Nat}(h:Nb w w1):w.grownBy w1 row:=⟨Below.os h,Below.tape h,Below.output h,Below.size h,fun k hk _=>Below.block h k hk⟩
theorem YL{h:HV}{w W1:World}{p q g:Nat}{bs:By}{old:Array Value}(hg:w.grownBy W1 (some q))(hM:Mem 85 W1 p q bs)(k0:W1.heap[g]? =some (.cells old 25 (0,0)))(hlen:(hC h).toArray.size=36)(hgw:w.heap.size≤g)
  (tmps:Array Value) (v E:Int) (hp:tmps.getD 10 undef=.pointer (some ⟨g,0,none⟩)) (h11:tmps.getD 11 undef=.int .u64 v) (h12:tmps.getD 12 undef=.int .i64 E):
  bodyPost prog Tryz.f23 (fun e w'=>e=.returned (.tuple #[.agg (hC h).toArray,.int .u64 v,.int .i64 E])∧Mem 85 w' p q bs∧w.grownBy w' (some q)) Exit.ret {tmps:=tmps,defers:=[]} (W1.setRow g (hC h).toArray):=by
 have k2:=setRow_heap W1 g _ (hC h).toArray 25 _ k0
 have hpg:p≠g:=by
  rintro rfl
  have:=hM.1.symm.trans k0
  simp at this
 have hqg:q≠g:=by
  rintro rfl
  have:=hM.2.symm.trans k0
  simp at this
 refine bodyPost_ret (Z0Q rfl _ _ g _ hp (Z09 g _ _ _ _ k2 hlen)) rfl ⟨by rw[h11,h12],⟨(setRow_other W1 g p _ hpg).trans hM.1,(setRow_other W1 g q _ hqg).trans hM.2⟩,?_⟩
 exact⟨hg.os,hg.tape,hg.output,Nat.le_trans hg.size (by simp[World.setRow]),fun k hk hr=>(setRow_other W1 g k _ (by omega)).trans (hg.block k hk hr)⟩
theorem Z2e(h:HV)(i:In7)(a b:Int)(p q:Nat)(bs:By)(hh:HOk h)(hi: -9223372036854775808≤i.2.2.2.2.1∧i.2.2.2.2.1<9223372036854775808)(qa:InU a)(qb:InU b)(hn:Zz i.1=false∧Zq i.1=false)(hl:bs.length≤16777216)(w:World)(hC0:Cod w)(hM:Mem 85 w p q bs):
  Calls prog 23 #[hA h,i7A i,.int .u64 a,.int .u64 b,.pointer (some ⟨p,0,none⟩)] w (ZY h i a b bs p q w):=by
 have e0:=Lib.hid (show ZC h i a b bs=(h,VX i.1 i.2.1 i.2.2.1 i.2.2.2.1 i.2.2.2.2.1 i.2.2.2.2.2.1 i.2.2.2.2.2.2 h.pc a b,0,bs) from if_pos hn)
 have h1:=Lib.hid (ZZ i.1)
 have h2:=Lib.hid (Y4 i.1)
 rw[hn.1] at h1
 rw[hn.2] at h2
 have HV:=Lib.hid fun w1 hc=>Z7V i.1 i.2.1 i.2.2.1 i.2.2.2.1 i.2.2.2.2.1 h.pc a b i.2.2.2.2.2.1 i.2.2.2.2.2.2 qa qb hi.1 hi.2 w1 hc
 have hlen:=Lib.hid (show(hC h).toArray.size=36 by rw[List.size_toArray];exact Zv hh.len)
 have hone:=Lib.hid (Zu (ZI h))
 clear hn hh hi qa qb
 unfold ZY
 rw[e0.out]
 generalize VX i.1 i.2.1 i.2.2.1 i.2.2.2.1 i.2.2.2.2.1 i.2.2.2.2.2.1 i.2.2.2.2.2.2 h.pc a b=v at*
 generalize EX i.1 i.2.1 i.2.2.1 i.2.2.2.1 i.2.2.2.2.1 i.2.2.2.2.2.1 i.2.2.2.2.2.2=ex at*
 unfold hA i7A
 go_enter func23,ntmps23
 go_upto_region 1 with(fail)
 obtain⟨W1,w1e⟩:∃W1,((w.alloc (Obj.cells (hC h).toArray 25)).alloc (Obj.cells #[.int .i64 i.1,.int .i64 i.2.1,.int .i64 i.2.2.1,.int .i64 i.2.2.2.1,.int .i64 i.2.2.2.2.1,.bool i.2.2.2.2.2.1,.bool i.2.2.2.2.2.2] 50)).alloc (Obj.cells #[.int .u64 0,.int .u64 0,.int .u64 0,.int .u64 0,.int .u64 0,.int .u64 0,.int .u64 0,.int .u64 0,.int .u64 0,.int .u64 0,.int .u64 0,.int .u64 0,.int .u64 0,.int .u64 0,.int .u64 0,.int .u64 0,.int .u64 0,.int .u64 0,.int .u64 0,.int .u64 0,.int .u64 0,.int .u64 0,.int .u64 0,.int .u64 0,.int .u64 0,.int .u64 0,.int .u64 0,.int .u64 0,.int .u64 0,.int .u64 0,.int .u64 0,.int .u64 0,.int .u64 0,.bool false,.int .u64 0,.int .i64 0] 25)=W1:=⟨_,rfl⟩
 have n1:Nb w W1:=by rw[←w1e];exact(((Nb.refl _).alloc _).alloc _).alloc _
 have kH:W1.heap[w.heap.size]? =some (.cells (hC h).toArray 25 (0,0)):=by rw[←w1e];exact Zo (Zo (Zd _ _ rfl) _) _
 have kI:W1.heap[w.heap.size+1]? =some (.cells #[.int .i64 i.1,.int .i64 i.2.1,.int .i64 i.2.2.1,.int .i64 i.2.2.2.1,.int .i64 i.2.2.2.2.1,.bool i.2.2.2.2.2.1,.bool i.2.2.2.2.2.2] 50 (0,0)):=by rw[←w1e];exact Zo (Zd _ _ (by simp)) _
 have kZ:W1.heap[w.heap.size+1+1]? =some (.cells Z8 25 (0,0)):=by rw[←w1e];exact Zd _ _ (by simp)
 rw[w1e]
 clear w1e
 obtain⟨z,c0,c1,c2,c3,c4,c5,c6⟩:=Z4 kI
 have cP:W1.cell? ⟨w.heap.size,0,none⟩=some (.int .u64 h.pc):=by rw[cell_of_row _ _ 0 _ _ _ kH];rfl
 go_wp2_with fail
 refine(h1.out _).mono ?_
 rintro e w'⟨rfl,rfl⟩
 go_wp2_with fail
 refine(h2.out _).mono ?_
 rintro e w'⟨rfl,rfl⟩
 go_wp2_with fail
 refine(HV.out _ (hC0.of_nb n1)).mono ?_
 rintro e w2⟨rfl,n2⟩
 replace kH:=n2.block kH
 replace kZ:=n2.block kZ
 have nn:=n1.trans n2
 clear n1 n2 z c0 c1 c2 c3 c4 c5 c6 cP kI
 go_wp2_with (first
  |refine wpList_load_row rfl 25 (.tmp 5) rfl w.heap.size rfl 25 (hC h).toArray (0,0) _ kH underlying25 rfl (by rw[ZA,hlen.out]) ?_
  |refine wpList_store_row rfl 25 (.tmp 10) (.tmp 39) rfl (w.heap.size+1+1) (hC h).toArray rfl rfl 25 _ kZ (by rw[ZA,hlen.out]) (by rw[hlen.out];rfl) hone.out ?_)
 exact YL (nn.grown_none) (hM.nb nn) kZ hlen.out (by omega) _ _ _ rfl rfl rfl
end Go.Proofs.YtgpdpaljbiclkaaGreatDoor
end

/-
  Proved here: what Step of the reference answers, whatever stands there: what the plain step is. Conditions: the hart's numbers are words; the memory is one that a call made, of at most 2^24 bytes. ¦ what '==' of two harts answers. Conditions: there are 32 registers.
-/
import Derived.Test.YtgpdpaljbiclkaaGreatDoorSzz
import Derived.Test.YtgpdpaljbiclkaaGreatDoorSbq
import Derived.Test.YtgpdpaljbiclkaaGreatDoorSbj
import Derived.ChangeKeysEq
set_option maxHeartbeats 2000000
section
namespace Go.Proofs.YtgpdpaljbiclkaaGreatDoor
open _root_.Go.Proofs.Tryz
open Go.RowKit
set_option linter.unusedVariables false
set_option linter.unusedSimpArgs false
def Z1U (h:HV) (i:In7) (a b:Int) (bs:By) (V:Int) (H:HV) (E:Int) (B:By):Prop:=
 (ZC h i a b bs).2.2.1=E∧(ZC h i a b bs).2.2.2=B∧H.pc=h.pc∧H.x=h.x∧(E=0→(ZC h i a b bs).1=H∧(ZC h i a b bs).2.1=V)∧(E≠0→B=bs)
theorem Jb{h:HV}{i:In7}{a b:Int}{bs:By}{V:Int}{H:HV}{E:Int}{B:By}(hp:H.pc=h.pc)(hx:H.x=h.x)(e:ZC h i a b bs=(H,V,E,B))(hB:E≠0→B=bs):Z1U h i a b bs V H E B:=by
 unfold Z1U
 rw[e]
 exact⟨rfl,rfl,hp,hx,fun _=>⟨rfl,rfl⟩,hB⟩
theorem JA{h:HV}{i:In7}{a b:Int}{bs:By}{E:Int}{H1:HV}{V1:Int}(e:ZC h i a b bs=(H1,V1,E,bs))(hE:E≠0):Z1U h i a b bs 0 h E bs:=by
 unfold Z1U
 rw[e]
 exact⟨rfl,rfl,rfl,rfl,fun h0=>absurd h0 hE,fun _=>rfl⟩
theorem ldB_no(op raw:Int)(h:Zz op=false):LdB op raw=0:=by unfold LdB;rw[h];rfl
theorem mov_l(op at_ s b:Int)(bs:By)(hL:Zz op=true)(hS:Zq op=false):ZO op at_ s b bs=(ldV bs at_ s,flt bs.length at_ s,bs):=by
 unfold ZO
 rw[if_neg (fun h=>by rw[hS] at h;cases h.2),if_pos hL,if_pos hL]
theorem mov_s(op at_ s b:Int)(bs:By)(hL:Zz op=false)(hS:Zq op=true):ZO op at_ s b bs=(0,flt bs.length at_ s,stB bs at_ s (StB op 0 b)):=by
 unfold ZO
 rw[if_pos ⟨fun h=>absurd (hL.symm.trans h) (by decide),hS⟩,hL,if_neg (by decide)]
theorem mov_a(op at_ s b:Int)(bs:By)(hL:Zz op=true)(hS:Zq op=true)(hf:flt bs.length at_ s=0):ZO op at_ s b bs=(ldV bs at_ s,0,stB bs at_ s (StB op (ldV bs at_ s) b)):=by
 unfold ZO
 rw[if_pos ⟨fun _=>hf,hS⟩,if_pos hL,hf]
theorem mov_f(op at_ s b:Int)(bs:By)(hL:Zz op=true)(hf:flt bs.length at_ s≠0):ZO op at_ s b bs=(ldV bs at_ s,flt bs.length at_ s,bs):=by
 unfold ZO
 rw[if_neg (fun h=>hf (h.1 hL)),if_pos hL,if_pos hL]
theorem ops_sc(op:Int)(h:op=67∨op=78):Zz op=false∧Zq op=true:=by rcases h with rfl|rfl<;>exact⟨rfl,rfl⟩
theorem ops_lr(op:Int)(h:op=66∨op=77):Zz op=true∧Zq op=false:=by rcases h with rfl|rfl<;>exact⟨rfl,rfl⟩
theorem Z8k(h:HV)(i:In7)(b:Int)(p q:Nat)(bs:By)(hh:HOk h)(qb:InU b)(hr1:0≤i.2.2.1∧i.2.2.1<32)(hLS:Zz i.1=true∨Zq i.1=true)(hl:bs.length≤16777216):
  ∃V H E B,Z1U h i (rg h.x i.2.2.1.toNat) b bs V H E B∧∀w,Mem 62 w p q bs→Calls prog 31 #[.agg (hC h).toArray,.pointer (some ⟨p,0,none⟩),.agg (iC i),.int .u64 b] w (Kx V H E B p q w):=by
 obtain⟨at_,ha⟩:∃at_,AdB i.1 i.2.2.2.2.1 (rg h.x i.2.2.1.toNat)=at_:=⟨_,rfl⟩
 obtain⟨s,hs⟩:∃s,Za i.1=s:=⟨_,rfl⟩
 have qt:InU at_:=by rw[←ha];exact Z0R _ _ _ (YO hh.x _)
 have hn:¬(Zz i.1=false∧Zq i.1=false):=fun hc=>by
  rcases hLS with k|k
  ·exact absurd (hc.1.symm.trans k) (by decide)
  ·exact absurd (hc.2.symm.trans k) (by decide)
 by_cases hsc:i.1=67∨i.1=78
 ·obtain⟨hL,hS⟩:=ops_sc i.1 hsc
  by_cases hk:h.held=true∧h.addr=at_∧h.size=s
  ·have hb2:(h.addr==at_)=true:=beq_iff_eq.2 hk.2.1
   have hb3:(h.size==s)=true:=beq_iff_eq.2 hk.2.2
   have hdon:ZC h i (rg h.x i.2.2.1.toNat) b bs=({h with held:=false,addr:=0,size:=0},0,flt bs.length at_ s,stB bs at_ s (StB i.1 0 b)):=by
    unfold ZC
    rw[if_neg hn,if_neg (by omega),if_pos hsc,ha,hs,if_pos hk,mov_s _ _ _ _ _ hL hS,ldB_no _ _ hL]
   by_cases hf:flt bs.length at_ s=0
   ·rw[hf] at hdon
    refine⟨_,_,_,_,Jb (by rfl) (by rfl) hdon (fun h0=>absurd rfl h0),fun w hM=> ?_⟩
    rcases hsc with h67|h78
    ·exact Ym h i b at_ s _ _ _ _ p q bs hh qb hr1 ha hs qt (.inr (.inr (.inr (.inr (.inr (.inr (.inr (.inr (.inr (.inr (.inr (.inl ⟨hS,(beq_iff_eq.2 h67),(nB (by omega)),hk.1,hb2,hb3,hf,rfl,rfl,rfl,rfl⟩)))))))))))) hl w hM
    ·exact Ym h i b at_ s _ _ _ _ p q bs hh qb hr1 ha hs qt (.inr (.inr (.inr (.inr (.inr (.inr (.inr (.inr (.inr (.inr (.inr (.inr (.inr (.inr (.inr (.inr ⟨hS,(nB (by omega)),(beq_iff_eq.2 h78),hk.1,hb2,hb3,hf,rfl,rfl,rfl,rfl⟩)))))))))))))))) hl w hM
   ·rw[JY _ _ _ _ hf] at hdon
    refine⟨_,_,_,_,JA hdon hf,fun w hM=> ?_⟩
    rcases hsc with h67|h78
    ·exact Ym h i b at_ s _ _ _ _ p q bs hh qb hr1 ha hs qt (.inr (.inr (.inr (.inr (.inr (.inr (.inr (.inr (.inr (.inr (.inl ⟨hS,(beq_iff_eq.2 h67),(nB (by omega)),hk.1,hb2,hb3,hf,rfl,rfl,rfl,rfl⟩))))))))))) hl w hM
    ·exact Ym h i b at_ s _ _ _ _ p q bs hh qb hr1 ha hs qt (.inr (.inr (.inr (.inr (.inr (.inr (.inr (.inr (.inr (.inr (.inr (.inr (.inr (.inr (.inr (.inl ⟨hS,(nB (by omega)),(beq_iff_eq.2 h78),hk.1,hb2,hb3,hf,rfl,rfl,rfl,rfl⟩)))))))))))))))) hl w hM
  ·have hdon:ZC h i (rg h.x i.2.2.1.toNat) b bs=({h with held:=false,addr:=0,size:=0},1,0,bs):=by
    unfold ZC
    rw[if_neg hn,if_neg (by omega),if_pos hsc,ha,hs,if_neg hk]
   refine⟨_,_,_,_,Jb (by rfl) (by rfl) hdon (fun h0=>absurd rfl h0),fun w hM=> ?_⟩
   cases t1:h.held with
   |false=>
    rcases hsc with h67|h78
    ·exact Ym h i b at_ s _ _ _ _ p q bs hh qb hr1 ha hs qt (.inr (.inr (.inr (.inr (.inr (.inr (.inr (.inl ⟨(beq_iff_eq.2 h67),(nB (by omega)),t1,rfl,rfl,rfl,rfl⟩)))))))) hl w hM
    ·exact Ym h i b at_ s _ _ _ _ p q bs hh qb hr1 ha hs qt (.inr (.inr (.inr (.inr (.inr (.inr (.inr (.inr (.inr (.inr (.inr (.inr (.inl ⟨(nB (by omega)),(beq_iff_eq.2 h78),t1,rfl,rfl,rfl,rfl⟩))))))))))))) hl w hM
   |true=>
    by_cases t2:h.addr=at_
    ·have t3:h.size≠s:=fun e=>hk ⟨t1,t2,e⟩
     rcases hsc with h67|h78
     ·exact Ym h i b at_ s _ _ _ _ p q bs hh qb hr1 ha hs qt (.inr (.inr (.inr (.inr (.inr (.inr (.inr (.inr (.inr (.inl ⟨(beq_iff_eq.2 h67),(nB (by omega)),t1,(beq_iff_eq.2 t2),(nB t3),rfl,rfl,rfl,rfl⟩)))))))))) hl w hM
     ·exact Ym h i b at_ s _ _ _ _ p q bs hh qb hr1 ha hs qt (.inr (.inr (.inr (.inr (.inr (.inr (.inr (.inr (.inr (.inr (.inr (.inr (.inr (.inr (.inl ⟨(nB (by omega)),(beq_iff_eq.2 h78),t1,(beq_iff_eq.2 t2),(nB t3),rfl,rfl,rfl,rfl⟩))))))))))))))) hl w hM
    ·rcases hsc with h67|h78
     ·exact Ym h i b at_ s _ _ _ _ p q bs hh qb hr1 ha hs qt (.inr (.inr (.inr (.inr (.inr (.inr (.inr (.inr (.inl ⟨(beq_iff_eq.2 h67),(nB (by omega)),t1,(nB t2),rfl,rfl,rfl,rfl⟩))))))))) hl w hM
     ·exact Ym h i b at_ s _ _ _ _ p q bs hh qb hr1 ha hs qt (.inr (.inr (.inr (.inr (.inr (.inr (.inr (.inr (.inr (.inr (.inr (.inr (.inr (.inl ⟨(nB (by omega)),(beq_iff_eq.2 h78),t1,(nB t2),rfl,rfl,rfl,rfl⟩)))))))))))))) hl w hM
 ·have d67:(i.1==67)=false:=nB (by omega)
  have d78:(i.1==78)=false:=nB (by omega)
  by_cases hlr:i.1=66∨i.1=77
  ·obtain⟨hL,hS⟩:=ops_lr i.1 hlr
   have hdon:ZC h i (rg h.x i.2.2.1.toNat) b bs=({h with held:=true,addr:=at_,size:=s},LdB i.1 (ldV bs at_ s),flt bs.length at_ s,bs):=by
    unfold ZC
    rw[if_neg hn,if_pos hlr,ha,hs,mov_l _ _ _ _ _ hL hS]
   by_cases hf:flt bs.length at_ s=0
   ·rw[hf] at hdon
    refine⟨_,_,_,_,Jb (by rfl) (by rfl) hdon (fun h0=>absurd rfl h0),fun w hM=> ?_⟩
    rcases hlr with h66|h77
    ·exact Ym h i b at_ s _ _ _ _ p q bs hh qb hr1 ha hs qt (.inr (.inr (.inl ⟨hL,hS,d67,d78,(beq_iff_eq.2 h66),(nB (by omega)),hf,rfl,rfl,rfl,rfl⟩))) hl w hM
    ·exact Ym h i b at_ s _ _ _ _ p q bs hh qb hr1 ha hs qt (.inr (.inr (.inr (.inl ⟨hL,hS,d67,d78,(nB (by omega)),(beq_iff_eq.2 h77),hf,rfl,rfl,rfl,rfl⟩)))) hl w hM
   ·exact⟨_,_,_,_,JA hdon hf,fun w hM=>Ym h i b at_ s _ _ _ _ p q bs hh qb hr1 ha hs qt (.inl ⟨hL,d67,d78,hf,rfl,rfl,rfl,rfl⟩) hl w hM⟩
  ·have d66:(i.1==66)=false:=nB (by omega)
   have d77:(i.1==77)=false:=nB (by omega)
   have hdon:ZC h i (rg h.x i.2.2.1.toNat) b bs=(h,LdB i.1 (ZO i.1 at_ s b bs).1,(ZO i.1 at_ s b bs).2):=by
    unfold ZC
    rw[if_neg hn,if_neg hlr,if_neg hsc,ha,hs]
   cases hL:Zz i.1 with
   |true=>
    by_cases hf:flt bs.length at_ s=0
    ·cases hS:Zq i.1 with
     |true=>
      rw[mov_a _ _ _ _ _ hL hS hf] at hdon
      exact⟨_,_,_,_,Jb (by rfl) (by rfl) hdon (fun h0=>absurd rfl h0),fun w hM=>Ym h i b at_ s _ _ _ _ p q bs hh qb hr1 ha hs qt (.inr (.inr (.inr (.inr (.inl ⟨hL,hS,d67,d78,d66,d77,hf,rfl,rfl,rfl,rfl⟩))))) hl w hM⟩
     |false=>
      rw[mov_l _ _ _ _ _ hL hS,hf] at hdon
      exact⟨_,_,_,_,Jb (by rfl) (by rfl) hdon (fun h0=>absurd rfl h0),fun w hM=>Ym h i b at_ s _ _ _ _ p q bs hh qb hr1 ha hs qt (.inr (.inl ⟨hL,hS,d67,d78,d66,d77,hf,rfl,rfl,rfl,rfl⟩)) hl w hM⟩
    ·rw[mov_f _ _ _ _ _ hL hf] at hdon
     exact⟨_,_,_,_,JA hdon hf,fun w hM=>Ym h i b at_ s _ _ _ _ p q bs hh qb hr1 ha hs qt (.inl ⟨hL,d67,d78,hf,rfl,rfl,rfl,rfl⟩) hl w hM⟩
   |false=>
    have hS:Zq i.1=true:=by
     rcases hLS with k|k
     ·exact absurd (hL.symm.trans k) (by decide)
     ·exact k
    rw[mov_s _ _ _ _ _ hL hS] at hdon
    by_cases hf:flt bs.length at_ s=0
    ·rw[hf] at hdon
     exact⟨_,_,_,_,Jb (by rfl) (by rfl) hdon (fun h0=>absurd rfl h0),fun w hM=>Ym h i b at_ s _ _ _ _ p q bs hh qb hr1 ha hs qt (.inr (.inr (.inr (.inr (.inr (.inl ⟨hL,hS,d67,d78,d66,d77,hf,rfl,rfl,rfl,rfl⟩)))))) hl w hM⟩
    ·rw[JY _ _ _ _ hf] at hdon
     exact⟨_,_,_,_,JA hdon hf,fun w hM=>Ym h i b at_ s _ _ _ _ p q bs hh qb hr1 ha hs qt (.inr (.inr (.inr (.inr (.inr (.inr (.inl ⟨hL,hS,d67,d78,hf,rfl,rfl,rfl,rfl⟩))))))) hl w hM⟩
theorem Z8l(op:Int)(h:1≤op∧op<88):(0<Za op↔(Zz op=true∨Zq op=true))∧(Za op=0∨10<op):=by
 unfold Za Zz Zq
 refine⟨?_,?_⟩
 ·simp only[decide_eq_true_eq]
  constructor
  ·intro hq
   by_cases hc:(11≤op∧op≤21)∨(66≤op∧op≤87)
   ·omega
   ·exfalso
    rw[if_neg (by omega),if_neg (by omega),if_neg (by omega),if_neg (by omega),if_neg (by omega),if_neg (by omega)] at hq
    omega
  ·intro hq
   repeat' split
   all_goals omega
 ·repeat' split
  all_goals omega
theorem Z8m{h:HV}{bs:By}{i:In7}(hf:fetS bs h.pc=(i,0)):
  stepS h bs=if (ZC h i (rg h.x i.2.2.1.toNat) (rg h.x i.2.2.2.1.toNat) bs).2.2.1=0 then
   ({(ZC h i (rg h.x i.2.2.1.toNat) (rg h.x i.2.2.2.1.toNat) bs).1 with pc:=Yv i h.pc (rg h.x i.2.2.1.toNat) (rg h.x i.2.2.2.1.toNat),x:=(h.x.set i.2.1.toNat (ZC h i (rg h.x i.2.2.1.toNat) (rg h.x i.2.2.2.1.toNat) bs).2.1).set 0 0},0,(ZC h i (rg h.x i.2.2.1.toNat) (rg h.x i.2.2.2.1.toNat) bs).2.2.2)
   else(h,(ZC h i (rg h.x i.2.2.1.toNat) (rg h.x i.2.2.2.1.toNat) bs).2.2.1,(ZC h i (rg h.x i.2.2.1.toNat) (rg h.x i.2.2.2.1.toNat) bs).2.2.2):=by
 unfold stepS
 rw[hf]
 exact if_pos rfl
theorem Z2p(i:In7)(pc a b:Int)(h:i.1<5∨10<i.1):Yv i pc a b=TgB i.1 i.2.2.2.2.1 pc a:=by
 unfold Yv
 rw[if_neg (fun hc=>by unfold BrB at hc;simp only[decide_eq_true_eq] at hc;omega)]
theorem Z2V(i:In7)(pc a b:Int)(h5:5≤i.1)(h10:i.1≤10)(t:Bool)(ht:TkB i.1 i.2.1 i.2.2.1 i.2.2.2.1 i.2.2.2.2.1 i.2.2.2.2.2.1 i.2.2.2.2.2.2 a b=t):Yv i pc a b=if t=true then TgB i.1 i.2.2.2.2.1 pc a else IntKind.u64.wrap (pc+4):=by
 have hB:BrB i.1=true:=decide_eq_true ⟨h5,h10⟩
 unfold Yv
 rw[ht]
 cases t
 ·rw[if_pos ⟨hB,rfl⟩,if_neg (by decide)]
 ·rw[if_neg (fun h=>by cases h.2),if_pos rfl]
theorem Z0p(h:HV)(p q:Nat)(bs:By)(hh:HOk h)(hl:bs.length≤16777216)(w:World)(hM:Mem 62 w p q bs):
  Calls prog 10 #[.agg (hC h).toArray,.pointer (some ⟨p,0,none⟩)] w (Jz h bs p q w):=by
 unfold Jz
 by_cases hf:flt bs.length h.pc 4=0
 ·cases hd:Xy (IntKind.u32.wrap (ldV bs h.pc 4)) with
  |none=>
   have e:stepS h bs=(h,21,bs):=by
    have e2:fetS bs h.pc=(z7,21):=by unfold fetS;rw[if_pos hf,hd]
    unfold stepS
    rw[e2]
    exact if_neg (by decide)
   rw[e]
   exact Z5A h p q bs hh hl hf hd w hM
  |some i=>
   by_cases ho:i.1=51∨i.1=52
   ·have e:stepS h bs=(h,60,bs):=by
     have e2:fetS bs h.pc=(z7,60):=by unfold fetS;rw[if_pos hf,hd];exact if_pos ho
     unfold stepS
     rw[e2]
     exact if_neg (by decide)
    rw[e]
    rcases ho with h51|h52
    ·exact Z2k h p q bs hh hl i hf hd (beq_iff_eq.2 h51) w hM
    ·exact Z2l h p q bs hh hl i hf hd (nB (by omega)) (beq_iff_eq.2 h52) w hM
   ·have e2:fetS bs h.pc=(i,0):=by unfold fetS;rw[if_pos hf,hd];exact if_neg ho
    obtain⟨hg,him⟩:=Z1E hd
    have hrr:=Xk hg
    have hop:=JM hg
    have o1:(i.1==51)=false:=nB (by omega)
    have o2:(i.1==52)=false:=nB (by omega)
    have qa:=YO hh.x i.2.2.1.toNat
    have qb:=YO hh.x i.2.2.2.1.toNat
    have hTg:∀w1,Calls prog 34 #[.agg (iC i),.int .u64 h.pc,.int .u64 (rg h.x i.2.2.1.toNat)] w1 fun e w'=>e=.returned (.int .u64 (TgB i.1 i.2.2.2.2.1 h.pc (rg h.x i.2.2.1.toNat)))∧Nb w1 w':=fun w1=>Z5b i.1 i.2.1 i.2.2.1 i.2.2.2.1 i.2.2.2.2.1 h.pc _ i.2.2.2.2.2.1 i.2.2.2.2.2.2 w1
    obtain⟨hsz,hs10⟩:=Z8l i.1 hop
    rw[Z8m e2]
    by_cases hLS:Zz i.1=true∨Zq i.1=true
    ·have hs0:=hsz.2 hLS
     obtain⟨V,H,E,B,⟨t1,t2,t3,t4,t5,t6⟩,hT⟩:=Z8k h i (rg h.x i.2.2.2.1.toNat) p q bs hh qb hrr.2.1 hLS hl
     rw[t1,t2]
     by_cases hE:E=0
     ·obtain⟨u1,u2⟩:=t5 hE
      subst hE
      rw[if_pos rfl,u1,u2]
      have h10:10<i.1:=by omega
      rw[Z2p i _ _ _ (.inr h10)]
      exact Z2m h p q bs hh hl i V _ hf hd o1 o2 hrr H B hs0 hT t3 t4 h10 hTg w hM
     ·have hBb:=t6 hE
      subst hBb
      rw[if_neg hE]
      exact Z8j h p q _ hh hl i E H V hf hd o1 o2 hrr hs0 hE hT (by rw[t4];exact hh.len) w hM
    ·have hs0:Za i.1=0:=by
      have:=Z2T i.1
      by_cases hq:0<Za i.1
      ·exact absurd (hsz.1 hq) hLS
      ·have:0≤Za i.1:=(Xp i.1).1
       omega
     have hno:Zz i.1=false∧Zq i.1=false:=by
      constructor
      ·cases hx:Zz i.1
       ·rfl
       ·exact absurd (.inl hx) hLS
      ·cases hx:Zq i.1
       ·rfl
       ·exact absurd (.inr hx) hLS
     have hdon:ZC h i (rg h.x i.2.2.1.toNat) (rg h.x i.2.2.2.1.toNat) bs=(h,VX i.1 i.2.1 i.2.2.1 i.2.2.2.1 i.2.2.2.2.1 i.2.2.2.2.2.1 i.2.2.2.2.2.2 h.pc (rg h.x i.2.2.1.toNat) (rg h.x i.2.2.2.1.toNat),0,bs):=if_pos hno
     rw[hdon]
     dsimp only
     rw[if_pos rfl]
     have hVal:∀w1,Calls prog 32 #[.agg (iC i),.int .u64 h.pc,.int .u64 (rg h.x i.2.2.1.toNat),.int .u64 (rg h.x i.2.2.2.1.toNat)] w1 fun e w'=>e=.returned (.tuple #[.int .u64 (VX i.1 i.2.1 i.2.2.1 i.2.2.2.1 i.2.2.2.2.1 i.2.2.2.2.2.1 i.2.2.2.2.2.2 h.pc (rg h.x i.2.2.1.toNat) (rg h.x i.2.2.2.1.toNat)),.int .i64 (EX i.1 i.2.1 i.2.2.1 i.2.2.2.1 i.2.2.2.2.1 i.2.2.2.2.2.1 i.2.2.2.2.2.2)])∧Nb w1 w':=
      fun w1=>Z58 i.1 i.2.1 i.2.2.1 i.2.2.2.1 i.2.2.2.2.1 h.pc _ _ i.2.2.2.2.2.1 i.2.2.2.2.2.2 qa qb him.1 him.2 w1
     by_cases h5:i.1<5
     ·rw[Z2p i _ _ _ (.inl h5)]
      exact Z2n h p q bs hh hl i _ _ hf hd o1 o2 hrr hs0 _ hVal h5 hTg w hM
     ·by_cases h10:10<i.1
      ·rw[Z2p i _ _ _ (.inr h10)]
       exact Z2o h p q bs hh hl i _ _ hf hd o1 o2 hrr hs0 _ hVal h10 hTg w hM
      ·have hTk:=fun w1=>Z80 i.1 i.2.1 i.2.2.1 i.2.2.2.1 i.2.2.2.2.1 (rg h.x i.2.2.1.toNat) (rg h.x i.2.2.2.1.toNat) i.2.2.2.2.2.1 i.2.2.2.2.2.2 qa qb him.1 him.2 w1
       cases ht:TkB i.1 i.2.1 i.2.2.1 i.2.2.2.1 i.2.2.2.2.1 i.2.2.2.2.2.1 i.2.2.2.2.2.2 (rg h.x i.2.2.1.toNat) (rg h.x i.2.2.2.1.toNat) with
       |true=>
        rw[ht] at hTk
        rw[Z2V i _ _ _ (by omega) (by omega) true ht,if_pos rfl]
        exact Z3G h p q bs hh hl i _ _ hf hd o1 o2 hrr hs0 _ hVal (by omega) (by omega) hTk hTg w hM
       |false=>
        rw[ht] at hTk
        rw[Z2V i _ _ _ (by omega) (by omega) false ht,if_neg (by decide)]
        exact Z3H h p q bs hh hl i _ _ hf hd o1 o2 hrr hs0 _ hVal (by omega) (by omega) hTk rfl w hM
 ·have e:stepS h bs=(h,flt bs.length h.pc 4,bs):=by
   have e2:fetS bs h.pc=(z7,flt bs.length h.pc 4):=by unfold fetS;exact if_neg hf
   unfold stepS
   rw[e2]
   exact if_neg hf
  rw[e]
  exact Z5z h p q bs hh hl hf w hM
end Go.Proofs.YtgpdpaljbiclkaaGreatDoor
end
section
namespace Go.Proofs.YtgpdpaljbiclkaaGreatDoor
open _root_.Go.Proofs.Tryz
open Go.RowKit
set_option linter.unusedVariables false
set_option linter.unusedSimpArgs false
theorem Z2W(d:Nat)(ls ms:List Int)(ha:ls.length=32)(hb:ms.length=32)(w:World):∀(is:List Nat),(∀i ∈ is,i<32)→
  ∃r:Bool,(Op.eqItems (d+1) 22 1 (xV ls).toArray (xV ms).toArray is).run prog w=.ok r w∧(r=true↔∀i ∈ is,ls[i]? =ms[i]?)
 |[],_=>⟨true,by simp[Op.eqItems],by simp⟩
 |i::is,h=>by
  have hi:=h i (by simp)
  obtain⟨r,hr,hiff⟩:=Z2W d ls ms ha hb w is (fun j hj=>h j (by simp[hj]))
  have p1:(part 22 (xV ls).toArray (i*1)).run prog w=.ok (.int .u64 ls[i]) w:=run_part_plain w (by kernel_rfl) (by rw[Nat.mul_one,List.getElem?_toArray];exact KV ls i (by omega))
  have p2:(part 22 (xV ms).toArray (i*1)).run prog w=.ok (.int .u64 ms[i]) w:=run_part_plain w (by kernel_rfl) (by rw[Nat.mul_one,List.getElem?_toArray];exact KV ms i (by omega))
  have p3:=run_equalIn_int (P:= prog) w d 22 .u64 .u64 ls[i] ms[i] underlying22
  simp only[Op.eqItems,Sem.run_bind,p1,p2,p3,Result.andThen_ok]
  have e1:ls[i]? =some ls[i]:=List.getElem?_eq_getElem (by omega)
  have e2:ms[i]? =some ms[i]:=List.getElem?_eq_getElem (by omega)
  by_cases hq:ls[i]=ms[i]
  ·refine⟨r,by simp[hq,hr],?_⟩
   rw[hiff]
   simp[e1,e2,hq]
  ·refine⟨false,by simp[hq],?_⟩
   simp[e1,e2,hq]
theorem Z5B(d:Nat)(ls ms:List Int)(ha:ls.length=32)(hb:ms.length=32)(w:World):∃r:Bool,(Op.equalIn (d+2) 23 (.agg (xV ls).toArray) (.agg (xV ms).toArray)).run prog w=.ok r w∧(r=true↔ls=ms):=by
 obtain⟨i,hi⟩:=info_of_underlying (P:= prog) underlying22
 obtain⟨r,hr,hiff⟩:=Z2W d ls ms ha hb w (List.range 32) (fun i hi=>List.mem_range.1 hi)
 refine⟨r,?_,?_⟩
 ·rw[run_equalIn_array w (d+1) _ _ underlying23 hi,show Tryz.prog.cellsOf 22 =1 by kernel_rfl]
  exact hr
 ·rw[hiff]
  constructor
  ·intro h
   apply List.ext_getElem?
   intro k
   by_cases hk:k<32
   ·exact h k (List.mem_range.2 hk)
   ·rw[List.getElem?_eq_none (by omega),List.getElem?_eq_none (by omega)]
  ·rintro rfl i _
   rfl
theorem Z0Z(h:HV)(k:h.x.length=32)(w:World):(part 23 (hC h).toArray 1).run prog w=.ok (.agg (xV h.x).toArray) w:=by
 have e:(hC h).toArray.extract 1 (1+32)=(xV h.x).toArray:=by
  have hx:(xV h.x).length=32:=by rw[YW];exact k
  apply Array.ext'
  rw[Array.toList_extract]
  show List.take (1+32-1) (List.drop 1 (hC h))=xV h.x
  unfold hC
  rw[List.drop_succ_cons,List.drop_zero,List.take_append_of_le_length (by omega),List.take_of_length_le (by omega)]
 have hi:=KX
 cases hq: Tryz.prog.info? 23 with
 |none=>simp[hq] at hi
 |some j=>
  have hs:j.size=32:=by simpa[hq] using hi
  have hu:= underlying23
  have e2:=congrArg Array.toList e
  simp at e2
  simp[part,isAgg,sizeOf,typeInfo,hq,run_underlying hu,hs]
  exact e2
theorem Xd{P:Program}{d:Nat}{xs ys:Array Value}{f:Field}{fs:List Field}{w:World}{a b:Value}{r:Bool}(hn:f.name≠ "_")(p1:(part f.type xs f.offset).run P w=.ok a w)(p2:(part f.type ys f.offset).run P w=.ok b w)(p3:(Op.equalIn d f.type a b).run P w=.ok r w):
  (Op.eqFields d xs ys (f::fs)).run P w=if r=true then(Op.eqFields d xs ys fs).run P w else .ok false w:=by
 simp only[Op.eqFields,if_pos hn,Sem.run_bind,p1,p2,p3,Result.andThen_ok]
 cases r<;>simp
theorem Z5C:∃f0 f1 f2 f3 f4:Field,(Tryz.prog.fieldsOf 25).toList=[f0,f1,f2,f3,f4]∧(f0.name≠ "_" ∧f0.type= 22∧f0.offset=0)∧(f1.name≠ "_" ∧f1.type= 23∧f1.offset=1)∧(f2.name≠ "_" ∧f2.type= 4∧f2.offset=33)∧(f3.name≠ "_" ∧f3.type= 22∧f3.offset=34)∧(f4.name≠ "_" ∧f4.type= 3∧f4.offset=35):=by
 unfold Program.fieldsOf
 rw[underlying25]
 exact⟨_,_,_,_,_,rfl,⟨by decide,rfl,rfl⟩,⟨by decide,rfl,rfl⟩,⟨by decide,rfl,rfl⟩,⟨by decide,rfl,rfl⟩,⟨by decide,rfl,rfl⟩⟩
theorem Z2X(h:HV)(k:h.x.length=32):(hC h).toArray[0]? =some (.int .u64 h.pc)∧(hC h).toArray[33]? =some (.bool h.held)∧(hC h).toArray[34]? =some (.int .u64 h.addr)∧(hC h).toArray[35]? =some (.int .i64 h.size):=by
 have hx:(xV h.x).length=32:=by rw[YW];exact k
 unfold hC
 refine⟨?_,?_,?_,?_⟩<;>rw[List.getElem?_toArray]
 ·rfl
 ·rw[List.getElem?_cons_succ,List.getElem?_append_right (by omega),hx];rfl
 ·rw[List.getElem?_cons_succ,List.getElem?_append_right (by omega),hx];rfl
 ·rw[List.getElem?_cons_succ,List.getElem?_append_right (by omega),hx];rfl
theorem Z8n(h k:HV)(l1:h.x.length=32)(l2:k.x.length=32)(w:World):∃r:Bool,(binOp .eql 25 (.agg (hC h).toArray) (.agg (hC k).toArray)).run prog w=.ok (.bool r) w∧(r=true↔h=k):=by
 obtain⟨f0,f1,f2,f3,f4,he,⟨n0,t0,o0⟩,⟨n1,t1,o1⟩,⟨n2,t2,o2⟩,⟨n3,t3,o3⟩,⟨n4,t4,o4⟩⟩:=Z5C
 obtain⟨r,hr,hiff⟩:=Z5B 9997 h.x k.x l1 l2 w
 obtain⟨a0,a1,a2,a3⟩:=Z2X h l1
 obtain⟨b0,b1,b2,b3⟩:=Z2X k l2
 have hu: Tryz.prog.underlying 25 =some (.struct (Tryz.prog.fieldsOf 25)):=by kernel_rfl
 have hp: Tryz.prog.stoodInHeld 25 =false:=by kernel_rfl
 have e0:=run_equalIn_int (P:= prog) w 9998 22 .u64 .u64 h.pc k.pc underlying22
 have e2:=run_equalIn_bool (P:= prog) w 9998 4 h.held k.held underlying4
 have e3:=run_equalIn_int (P:= prog) w 9998 22 .u64 .u64 h.addr k.addr underlying22
 have e4:=run_equalIn_int (P:= prog) w 9998 3 .i64 .i64 h.size k.size underlying3
 refine⟨h.pc==k.pc && (r && (h.held==k.held && (h.addr==k.addr && h.size==k.size))),?_,?_⟩
 ·rw[run_eql_struct,run_equalIn_struct w 9999 _ _ _ hu hp,he]
  rw[Xd n0 (by rw[t0,o0];exact run_part_plain (P:= prog) w (e:= 22) (by kernel_rfl) a0) (by rw[t0,o0];exact run_part_plain (P:= prog) w (e:= 22) (by kernel_rfl) b0) (by rw[t0];exact e0)]
  rw[Xd n1 (by rw[t1,o1];exact Z0Z h l1 w) (by rw[t1,o1];exact Z0Z k l2 w) (by rw[t1];exact hr)]
  rw[Xd n2 (by rw[t2,o2];exact run_part_plain (P:= prog) w (e:= 4) (by kernel_rfl) a1) (by rw[t2,o2];exact run_part_plain (P:= prog) w (e:= 4) (by kernel_rfl) b1) (by rw[t2];exact e2)]
  rw[Xd n3 (by rw[t3,o3];exact run_part_plain (P:= prog) w (e:= 22) (by kernel_rfl) a2) (by rw[t3,o3];exact run_part_plain (P:= prog) w (e:= 22) (by kernel_rfl) b2) (by rw[t3];exact e3)]
  rw[Xd n4 (by rw[t4,o4];exact run_part_plain (P:= prog) w (e:= 3) (by kernel_rfl) a3) (by rw[t4,o4];exact run_part_plain (P:= prog) w (e:= 3) (by kernel_rfl) b3) (by rw[t4];exact e4)]
  cases (h.pc==k.pc)<;>cases r<;>cases (h.held==k.held)<;>cases (h.addr==k.addr)<;>cases (h.size==k.size)<;>simp[Op.eqFields]
 ·obtain⟨p1,x1,d1,a1,s1⟩:=h
  obtain⟨p2,x2,d2,a2,s2⟩:=k
  simp only[Bool.and_eq_true,hiff,beq_iff_eq,HV.mk.injEq]
end Go.Proofs.YtgpdpaljbiclkaaGreatDoor
end

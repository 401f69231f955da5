/-
  Proved here: what Decode of the reference answers for every word: the same as the code's Decode. Conditions: the word is a word.
-/
import Derived.Test.YtgpdpaljbiclkaaGreatDoorSbo
import Derived.Test.YtgpdpaljbiclkaaGreatDoorSan
set_option maxHeartbeats 8000000
set_option maxRecDepth 100000
namespace Go.Proofs.YtgpdpaljbiclkaaGreatDoor
open _root_.Go.Proofs.Tryz
open Go.RowKit Go.Sort Go.Great
set_option linter.unusedVariables false
theorem Z5x(k:Nat)(u:Int)(hg:K1 k u=true)(he:(Z06 k u==u)=true):Yh k u=true:=by
 obtain⟨U,hU,hE,hM,-⟩:=Z4m k _ _ _ _ _ _ hg
 have h1:Z06 k u=(U:Int):=hE
 rw[beq_iff_eq] at he
 rw[←he,h1];exact hM
theorem renc_k(k u:Int)(h:K1 k u=true)(w:World):
  Calls prog 59 #[.agg #[.int .i64 k,.int .i64 (Ird k u),.int .i64 (X8 k u),.int .i64 (X9 k u),.int .i64 (Iim k u),.bool (Iaq k u),.bool (Irl k u)]] w fun e w'=>e=.returned (.tuple #[.int .u32 (Z06 k u),.int .i64 0])∧Nb w w':=
 Z4p _ _ _ _ _ _ _ (YI k u).1 (YI k u).2 h w
theorem Z8i(k u:Int)(h:K1 k u=false)(w:World):
  Calls prog 59 #[.agg #[.int .i64 k,.int .i64 (Ird k u),.int .i64 (X8 k u),.int .i64 (X9 k u),.int .i64 (Iim k u),.bool (Iaq k u),.bool (Irl k u)]] w fun e w'=>e=.returned (.tuple #[.int .u32 0,.int .i64 20])∧Nb w w':=
 Z6l _ _ _ _ _ _ _ (YI k u).1 (YI k u).2 h w
theorem Z5y(u:Int)(u0:0≤u)(u1:u<4294967296)(w:World):
  Calls prog 28 #[.int .u32 u] w fun e w'=>Z27 u e∧Nb w w':=by
 go_enter func28,ntmps28
 go_wp2_with fail
 obtain⟨W1,hW⟩:∃W1,w.alloc (.cells #[.int .i64 0,.int .i64 0,.int .i64 0,.int .i64 0,.int .i64 0,.bool false,.bool false] 50)=W1:=⟨_,rfl⟩
 have hb:=Z0 w _ hW rfl
 have hN:Nb w W1:=by rw[←hW];exact(Nb.refl _).alloc _
 rw[hW]
 clear hW
 have HB:=Lib.hid hb
 clear hb
 go_loopw [4] (fun i wr=>(∃k:Nat,(1:Int)≤k∧(k:Int)≤88∧i=.int .i64 k∧Hid (∀j:Nat,1≤j→j<k→Yh j u=false))∧Nb w wr∧Hid (wr.heap[w.heap.size]? =some (.cells #[.int .i64 0,.int .i64 0,.int .i64 0,.int .i64 0,.int .i64 0,.bool false,.bool false] 50 (0,0)))) (fun i _=>(88-intOf i).toNat)
 case atStart=>exact⟨⟨1,by decide,by decide,rfl,fun j h1 h2=>absurd h2 (by omega)⟩,hN,HB⟩
 case round=>
  obtain⟨⟨k,k1,k2,rfl,hM⟩,hNr,HBr⟩:=hrel
  clear hN HB
  by_cases hlt:(k:Int)≤87
  ·clear k2
   go_wp2_with fail
   refine(as_any k u u0 u1 _).mono ?_
   rintro e w5⟨rfl,hn5⟩
   have hN5:=hNr.trans hn5
   have HB5:=Lib.hid (hn5.block HBr.out)
   clear hNr HBr hn5
   go_wp2_with fail
   obtain⟨W6,hW6⟩:∃W6,w5.alloc (.cells #[.int .i64 k,.int .i64 (Ird k u),.int .i64 (X8 k u),.int .i64 (X9 k u),.int .i64 (Iim k u),.bool (Iaq k u),.bool (Irl k u)] 50)=W6:=⟨_,rfl⟩
   have hb6:=Z0 w5 _ hW6 rfl
   have h6:Nb w5 W6:=by rw[←hW6];exact(Nb.refl _).alloc _
   rw[hW6]
   clear hW6
   have hN6:=hN5.trans h6
   have HB6:=Lib.hid (h6.block HB5.out)
   clear hN5 HB5 h6
   go_wp2_with fail
   cases b3:K1 k u
   ·refine(Z8i k u b3 _).mono ?_
    rintro e w7⟨rfl,hn7⟩
    have hN7:=hN6.trans hn7
    have HB7:=Lib.hid (hn7.block HB6.out)
    clear hN6 HB6 hn7 hb6
    go_wp2_with fail
    go_roundw
    case rel=>exact⟨⟨k+1,by omega,by omega,by go_num,Kj hM (Z2D k u b3)⟩,hN7,HB7⟩
    case measure=>simp[intOf];omega
   ·refine(renc_k k u b3 _).mono ?_
    rintro e w7⟨rfl,hn7⟩
    have hN7:=hN6.trans hn7
    have HB7:=Lib.hid (hn7.block HB6.out)
    have HI7:=Lib.hid (hn7.block hb6)
    clear hN6 HB6 hn7 hb6
    have B3:=Lib.hid b3
    clear b3
    cases b4:(Z06 k u==u)
    ·have HNo:=Lib.hid (Z2E k u b4)
     go_wp2_with fail
     go_roundw
     case rel=>exact⟨⟨k+1,by omega,by omega,by go_num,Kj hM (HNo.out)⟩,hN7,HB7⟩
     case measure=>simp[intOf];omega
    ·have HYes:=Lib.hid (Z5x k u B3.out b4)
     go_upto_region 7 with(fail)
     have HR:=Lib.hid (setRow_heap _ w.heap.size _ #[.int .i64 k,.int .i64 (Ird k u),.int .i64 (X8 k u),.int .i64 (X9 k u),.int .i64 (Iim k u),.bool (Iaq k u),.bool (Irl k u)] _ _ HB7.out)
     have HN:=hN7.setRow (Nat.le_refl _) #[.int .i64 k,.int .i64 (Ird k u),.int .i64 (X8 k u),.int .i64 (X9 k u),.int .i64 (Iim k u),.bool (Iaq k u),.bool (Irl k u)]
     clear hN7
     apply wp_region_list
     refine wpList_load_row rfl 50 _ rfl w5.heap.size rfl 50 #[.int .i64 k,.int .i64 (Ird k u),.int .i64 (X8 k u),.int .i64 (X9 k u),.int .i64 (Iim k u),.bool (Iaq k u),.bool (Irl k u)] (0,0) _ HI7.out underlying50 rfl (by kernel_rfl) ?_
     refine wpList_store_row rfl 50 _ _ rfl w.heap.size #[.int .i64 k,.int .i64 (Ird k u),.int .i64 (X8 k u),.int .i64 (X9 k u),.int .i64 (Iim k u),.bool (Iaq k u),.bool (Irl k u)] rfl rfl 50 _ HB7.out (by kernel_rfl) rfl (by kernel_rfl) ?_
     go_wp2_with fail
     refine bodyPost_ret (v:= .tuple #[.agg #[.int .i64 k,.int .i64 (Ird k u),.int .i64 (X8 k u),.int .i64 (X9 k u),.int .i64 (Iim k u),.bool (Iaq k u),.bool (Irl k u)],.int .i64 0]) ?_ rfl ⟨?_,?_⟩
     ·rw[results_cell_tmp rfl]
      show((loadVar 50 ⟨w.heap.size,0,none⟩).run prog _).andThen _=_
      rw[run_loadVar_row _ w.heap.size 50 50 #[.int .i64 k,.int .i64 (Ird k u),.int .i64 (X8 k u),.int .i64 (X9 k u),.int .i64 (Iim k u),.bool (Iaq k u),.bool (Irl k u)] (0,0) _ HR.out underlying50 rfl (by kernel_rfl)]
      rfl
     ·exact Or.inl ⟨k,by omega,by omega,HYes.out,hM.out,rfl⟩
     ·exact HN
  ·have HK:Hid (k=88):=Lib.hid (by omega)
   go_upto_region 8 with(fail)
   have HR:=Lib.hid (setRow_heap _ w.heap.size _ #[.int .i64 0,.int .i64 0,.int .i64 0,.int .i64 0,.int .i64 0,.bool false,.bool false] _ _ HBr.out)
   have HN:=hNr.setRow (Nat.le_refl _) #[.int .i64 0,.int .i64 0,.int .i64 0,.int .i64 0,.int .i64 0,.bool false,.bool false]
   clear hNr
   apply wp_region_list
   refine wpList_buildTo rfl 50 _ rfl (some 28) rfl #[.int .i64 0,.int .i64 0,.int .i64 0,.int .i64 0,.int .i64 0,.bool false,.bool false] (by kernel_rfl) ?_
   refine wpList_store_row rfl 50 _ _ rfl w.heap.size #[.int .i64 0,.int .i64 0,.int .i64 0,.int .i64 0,.int .i64 0,.bool false,.bool false] rfl rfl 50 _ HBr.out (by kernel_rfl) rfl (by kernel_rfl) ?_
   go_wp2_with fail
   refine bodyPost_ret (v:= .tuple #[.agg #[.int .i64 0,.int .i64 0,.int .i64 0,.int .i64 0,.int .i64 0,.bool false,.bool false],.int .i64 21]) ?_ rfl ⟨?_,?_⟩
   ·rw[results_cell_tmp rfl]
    show((loadVar 50 ⟨w.heap.size,0,none⟩).run prog _).andThen _=_
    rw[run_loadVar_row _ w.heap.size 50 50 #[.int .i64 0,.int .i64 0,.int .i64 0,.int .i64 0,.int .i64 0,.bool false,.bool false] (0,0) _ HR.out underlying50 rfl (by kernel_rfl)]
    rfl
   ·exact Or.inr ⟨fun j h1 h2=>hM.out j h1 (by rw[HK.out];exact h2),rfl⟩
   ·exact HN
end Go.Proofs.YtgpdpaljbiclkaaGreatDoor

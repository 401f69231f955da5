/-
  Proved here: the instruction that the reference reads out of a word for an operation is the code's. Conditions: the word is a word.
-/
import Derived.Test.YtgpdpaljbiclkaaGreatDoorSbn
import Derived.Great.Walk
import Derived.Great.BuildSlice
set_option maxHeartbeats 4000000
set_option maxRecDepth 100000
namespace Go.Proofs.YtgpdpaljbiclkaaGreatDoor
open _root_.Go.Proofs.Tryz
open Go.RowKit Go.Great
set_option linter.unusedVariables false
attribute [local go_sem ↓] Z26
theorem as_0(op u o a3 a7:Int)(u0:0≤u)(u1:u<4294967296)(RA:Hid (∀w,Calls prog 67 #[.int .i64 op] w fun e w'=>e=.returned (.agg #[.int .i64 0,.int .i64 o,.int .i64 a3,.int .i64 a7])∧Nw w w'))(w:World):
  Calls prog 58 #[.int .i64 op,.int .u32 u] w fun e w'=>e=.returned (.agg #[.int .i64 op,.int .i64 0,.int .i64 0,.int .i64 0,.int .i64 (oi (Zp 0) (II 0 u)),.bool false,.bool false])∧Nb w w':=by
 obtain⟨p0,p1⟩:=Ys u 7 (by decide) (by decide)
 obtain⟨q0,q1⟩:=Ys u 15 (by decide) (by decide)
 obtain⟨r0,r1⟩:=Ys u 20 (by decide) (by decide)
 go_enter func58,ntmps58
 go_wp2_with fail
 refine(RA.out _).mono ?_
 rintro e w1⟨rfl,hn1⟩
 go_wp2_with fail
 have hb1:=hn1.b.block (Z0 w _ rfl rfl)
 have hN1:Nb w w1:=((Nb.refl _).alloc _).trans hn1.b
 clear hn1
 refine(hs_0 _).mono ?_
 rintro e w2⟨rfl,hn2⟩
 have hb2:=hn2.b.block hb1
 have hN2:=hN1.trans hn2.b
 clear hb1 hN1 hn2
 go_wp2_with fail
 obtain⟨W2,hW2⟩:∃W2,w2.alloc (.cells #[.bool false,.bool false,.bool false,.bool false,.bool false] 129)=W2:=⟨_,rfl⟩
 have hh2:=Z0 w2 _ hW2 rfl
 have hn2:Nb w2 W2:=by rw[←hW2];exact(Nb.refl _).alloc _
 have hb2':=hn2.block hb2
 have hN2':=hN2.trans hn2
 rw[hW2]
 clear hW2 hb2 hN2 hn2
 refine(dval_0 u u0 u1 _).mono ?_
 rintro e w3⟨rfl,hn3⟩
 have hb3:=Lib.hid (hn3.b.block hb2')
 have hh3:=hn3.b.block hh2
 have hN3:=hN2'.trans hn3.b
 have n3:=lt_of_block hb3.out
 clear hb2' hh2 hN2' hn3
 obtain⟨n5,d0,d1,d2,d3,d4⟩:=X2 hh3
 clear hh3
 rename_i hK1 _ hK
 refine hK _ _ ?_
 clear hK
 refine wpList_buildTo rfl 50 _ rfl (some 17) rfl #[.int .i64 op,.int .i64 0,.int .i64 0,.int .i64 0,.int .i64 (oi (Zp 0) (II 0 u)),.bool false,.bool false] (by kernel_rfl) ?_
 refine wpList_allocTo rfl (some 7) rfl (.pointer (some ⟨w3.heap.size,0,none⟩)) (.cells #[.int .i64 0,.int .i64 0,.int .i64 0,.int .i64 0,.int .i64 0,.bool false,.bool false] 50) (by kernel_rfl) ?_
 refine wpList_store_row rfl 50 _ _ rfl w3.heap.size #[.int .i64 op,.int .i64 0,.int .i64 0,.int .i64 0,.int .i64 (oi (Zp 0) (II 0 u)),.bool false,.bool false] rfl rfl 50 _ (heap_alloc_new _ _) (by kernel_rfl) rfl (by kernel_rfl) ?_
 refine wpList_nil ?_
 refine hK1 _ _ ?_
 clear hK1
 rw[World.setRow_alloc_new]
 go_upto_region 13 with(go_at_call 94;refine(Y1 _ _ _ u0 u1 _).mono ?_;rintro e w'⟨rfl,rfl⟩)
 apply wp_region_list
 refine wpList_load_row rfl 50 _ rfl w3.heap.size rfl 50 #[.int .i64 op,.int .i64 0,.int .i64 0,.int .i64 0,.int .i64 (oi (Zp 0) (II 0 u)),.bool false,.bool false] (0,0) _ (heap_alloc_new _ _) underlying50 rfl (by kernel_rfl) ?_
 refine wpList_store_row rfl 50 _ _ rfl w.heap.size #[.int .i64 op,.int .i64 0,.int .i64 0,.int .i64 0,.int .i64 (oi (Zp 0) (II 0 u)),.bool false,.bool false] rfl rfl 50 #[.int .i64 0,.int .i64 0,.int .i64 0,.int .i64 0,.int .i64 0,.bool false,.bool false] ((heap_alloc_old _ _ n3).trans hb3.out) (by kernel_rfl) rfl (by kernel_rfl) ?_
 refine wpList_nil ?_
 rename_i hK
 refine hK _ _ ?_
 clear hK
 go_wp2_with fail
 refine bodyPost_ret (v:= .agg #[.int .i64 op,.int .i64 0,.int .i64 0,.int .i64 0,.int .i64 (oi (Zp 0) (II 0 u)),.bool false,.bool false]) (results_cell_row rfl _ _ w.heap.size 50 _ (0,0) _ rfl (setRow_heap _ _ _ _ _ _ ((heap_alloc_old _ _ n3).trans hb3.out)) underlying50 rfl (by kernel_rfl)) rfl ⟨rfl,?_⟩
 exact(hN3.alloc _).setRow (Nat.le_refl _) _
theorem as_1(op u o a3 a7:Int)(u0:0≤u)(u1:u<4294967296)(RA:Hid (∀w,Calls prog 67 #[.int .i64 op] w fun e w'=>e=.returned (.agg #[.int .i64 1,.int .i64 o,.int .i64 a3,.int .i64 a7])∧Nw w w'))(w:World):
  Calls prog 58 #[.int .i64 op,.int .u32 u] w fun e w'=>e=.returned (.agg #[.int .i64 op,.int .i64 (Fld u 7 5),.int .i64 0,.int .i64 0,.int .i64 (oi (Zp 1) (II 1 u)),.bool false,.bool false])∧Nb w w':=by
 obtain⟨p0,p1⟩:=Ys u 7 (by decide) (by decide)
 obtain⟨q0,q1⟩:=Ys u 15 (by decide) (by decide)
 obtain⟨r0,r1⟩:=Ys u 20 (by decide) (by decide)
 go_enter func58,ntmps58
 go_wp2_with fail
 refine(RA.out _).mono ?_
 rintro e w1⟨rfl,hn1⟩
 go_wp2_with fail
 have hb1:=hn1.b.block (Z0 w _ rfl rfl)
 have hN1:Nb w w1:=((Nb.refl _).alloc _).trans hn1.b
 clear hn1
 refine(hs_1 _).mono ?_
 rintro e w2⟨rfl,hn2⟩
 have hb2:=hn2.b.block hb1
 have hN2:=hN1.trans hn2.b
 clear hb1 hN1 hn2
 go_wp2_with fail
 obtain⟨W2,hW2⟩:∃W2,w2.alloc (.cells #[.bool true,.bool false,.bool false,.bool true,.bool false] 129)=W2:=⟨_,rfl⟩
 have hh2:=Z0 w2 _ hW2 rfl
 have hn2:Nb w2 W2:=by rw[←hW2];exact(Nb.refl _).alloc _
 have hb2':=hn2.block hb2
 have hN2':=hN2.trans hn2
 rw[hW2]
 clear hW2 hb2 hN2 hn2
 refine(dval_1 u u0 u1 _).mono ?_
 rintro e w3⟨rfl,hn3⟩
 have hb3:=Lib.hid (hn3.b.block hb2')
 have hh3:=hn3.b.block hh2
 have hN3:=hN2'.trans hn3.b
 have n3:=lt_of_block hb3.out
 clear hb2' hh2 hN2' hn3
 obtain⟨n5,d0,d1,d2,d3,d4⟩:=X2 hh3
 clear hh3
 rename_i hK1 _ hK
 refine hK _ _ ?_
 clear hK
 refine wpList_buildTo rfl 50 _ rfl (some 17) rfl #[.int .i64 op,.int .i64 0,.int .i64 0,.int .i64 0,.int .i64 (oi (Zp 1) (II 1 u)),.bool false,.bool false] (by kernel_rfl) ?_
 refine wpList_allocTo rfl (some 7) rfl (.pointer (some ⟨w3.heap.size,0,none⟩)) (.cells #[.int .i64 0,.int .i64 0,.int .i64 0,.int .i64 0,.int .i64 0,.bool false,.bool false] 50) (by kernel_rfl) ?_
 refine wpList_store_row rfl 50 _ _ rfl w3.heap.size #[.int .i64 op,.int .i64 0,.int .i64 0,.int .i64 0,.int .i64 (oi (Zp 1) (II 1 u)),.bool false,.bool false] rfl rfl 50 _ (heap_alloc_new _ _) (by kernel_rfl) rfl (by kernel_rfl) ?_
 refine wpList_nil ?_
 refine hK1 _ _ ?_
 clear hK1
 rw[World.setRow_alloc_new]
 go_upto_region 13 with(go_at_call 94;refine(Y1 _ _ _ u0 u1 _).mono ?_;rintro e w'⟨rfl,rfl⟩)
 apply wp_region_list
 refine wpList_load_row rfl 50 _ rfl w3.heap.size rfl 50 #[.int .i64 op,.int .i64 (Fld u 7 5),.int .i64 0,.int .i64 0,.int .i64 (oi (Zp 1) (II 1 u)),.bool false,.bool false] (0,0) _ (heap_alloc_new _ _) underlying50 rfl (by kernel_rfl) ?_
 refine wpList_store_row rfl 50 _ _ rfl w.heap.size #[.int .i64 op,.int .i64 (Fld u 7 5),.int .i64 0,.int .i64 0,.int .i64 (oi (Zp 1) (II 1 u)),.bool false,.bool false] rfl rfl 50 #[.int .i64 0,.int .i64 0,.int .i64 0,.int .i64 0,.int .i64 0,.bool false,.bool false] ((heap_alloc_old _ _ n3).trans hb3.out) (by kernel_rfl) rfl (by kernel_rfl) ?_
 refine wpList_nil ?_
 rename_i hK
 refine hK _ _ ?_
 clear hK
 go_wp2_with fail
 refine bodyPost_ret (v:= .agg #[.int .i64 op,.int .i64 (Fld u 7 5),.int .i64 0,.int .i64 0,.int .i64 (oi (Zp 1) (II 1 u)),.bool false,.bool false]) (results_cell_row rfl _ _ w.heap.size 50 _ (0,0) _ rfl (setRow_heap _ _ _ _ _ _ ((heap_alloc_old _ _ n3).trans hb3.out)) underlying50 rfl (by kernel_rfl)) rfl ⟨rfl,?_⟩
 exact(hN3.alloc _).setRow (Nat.le_refl _) _
theorem as_2(op u o a3 a7:Int)(u0:0≤u)(u1:u<4294967296)(RA:Hid (∀w,Calls prog 67 #[.int .i64 op] w fun e w'=>e=.returned (.agg #[.int .i64 2,.int .i64 o,.int .i64 a3,.int .i64 a7])∧Nw w w'))(w:World):
  Calls prog 58 #[.int .i64 op,.int .u32 u] w fun e w'=>e=.returned (.agg #[.int .i64 op,.int .i64 (Fld u 7 5),.int .i64 0,.int .i64 0,.int .i64 (oi (Zp 2) (II 2 u)),.bool false,.bool false])∧Nb w w':=by
 obtain⟨p0,p1⟩:=Ys u 7 (by decide) (by decide)
 obtain⟨q0,q1⟩:=Ys u 15 (by decide) (by decide)
 obtain⟨r0,r1⟩:=Ys u 20 (by decide) (by decide)
 go_enter func58,ntmps58
 go_wp2_with fail
 refine(RA.out _).mono ?_
 rintro e w1⟨rfl,hn1⟩
 go_wp2_with fail
 have hb1:=hn1.b.block (Z0 w _ rfl rfl)
 have hN1:Nb w w1:=((Nb.refl _).alloc _).trans hn1.b
 clear hn1
 refine(hs_2 _).mono ?_
 rintro e w2⟨rfl,hn2⟩
 have hb2:=hn2.b.block hb1
 have hN2:=hN1.trans hn2.b
 clear hb1 hN1 hn2
 go_wp2_with fail
 obtain⟨W2,hW2⟩:∃W2,w2.alloc (.cells #[.bool true,.bool false,.bool false,.bool true,.bool false] 129)=W2:=⟨_,rfl⟩
 have hh2:=Z0 w2 _ hW2 rfl
 have hn2:Nb w2 W2:=by rw[←hW2];exact(Nb.refl _).alloc _
 have hb2':=hn2.block hb2
 have hN2':=hN2.trans hn2
 rw[hW2]
 clear hW2 hb2 hN2 hn2
 refine(dval_2 u u0 u1 _).mono ?_
 rintro e w3⟨rfl,hn3⟩
 have hb3:=Lib.hid (hn3.b.block hb2')
 have hh3:=hn3.b.block hh2
 have hN3:=hN2'.trans hn3.b
 have n3:=lt_of_block hb3.out
 clear hb2' hh2 hN2' hn3
 obtain⟨n5,d0,d1,d2,d3,d4⟩:=X2 hh3
 clear hh3
 rename_i hK1 _ hK
 refine hK _ _ ?_
 clear hK
 refine wpList_buildTo rfl 50 _ rfl (some 17) rfl #[.int .i64 op,.int .i64 0,.int .i64 0,.int .i64 0,.int .i64 (oi (Zp 2) (II 2 u)),.bool false,.bool false] (by kernel_rfl) ?_
 refine wpList_allocTo rfl (some 7) rfl (.pointer (some ⟨w3.heap.size,0,none⟩)) (.cells #[.int .i64 0,.int .i64 0,.int .i64 0,.int .i64 0,.int .i64 0,.bool false,.bool false] 50) (by kernel_rfl) ?_
 refine wpList_store_row rfl 50 _ _ rfl w3.heap.size #[.int .i64 op,.int .i64 0,.int .i64 0,.int .i64 0,.int .i64 (oi (Zp 2) (II 2 u)),.bool false,.bool false] rfl rfl 50 _ (heap_alloc_new _ _) (by kernel_rfl) rfl (by kernel_rfl) ?_
 refine wpList_nil ?_
 refine hK1 _ _ ?_
 clear hK1
 rw[World.setRow_alloc_new]
 go_upto_region 13 with(go_at_call 94;refine(Y1 _ _ _ u0 u1 _).mono ?_;rintro e w'⟨rfl,rfl⟩)
 apply wp_region_list
 refine wpList_load_row rfl 50 _ rfl w3.heap.size rfl 50 #[.int .i64 op,.int .i64 (Fld u 7 5),.int .i64 0,.int .i64 0,.int .i64 (oi (Zp 2) (II 2 u)),.bool false,.bool false] (0,0) _ (heap_alloc_new _ _) underlying50 rfl (by kernel_rfl) ?_
 refine wpList_store_row rfl 50 _ _ rfl w.heap.size #[.int .i64 op,.int .i64 (Fld u 7 5),.int .i64 0,.int .i64 0,.int .i64 (oi (Zp 2) (II 2 u)),.bool false,.bool false] rfl rfl 50 #[.int .i64 0,.int .i64 0,.int .i64 0,.int .i64 0,.int .i64 0,.bool false,.bool false] ((heap_alloc_old _ _ n3).trans hb3.out) (by kernel_rfl) rfl (by kernel_rfl) ?_
 refine wpList_nil ?_
 rename_i hK
 refine hK _ _ ?_
 clear hK
 go_wp2_with fail
 refine bodyPost_ret (v:= .agg #[.int .i64 op,.int .i64 (Fld u 7 5),.int .i64 0,.int .i64 0,.int .i64 (oi (Zp 2) (II 2 u)),.bool false,.bool false]) (results_cell_row rfl _ _ w.heap.size 50 _ (0,0) _ rfl (setRow_heap _ _ _ _ _ _ ((heap_alloc_old _ _ n3).trans hb3.out)) underlying50 rfl (by kernel_rfl)) rfl ⟨rfl,?_⟩
 exact(hN3.alloc _).setRow (Nat.le_refl _) _
theorem as_3(op u o a3 a7:Int)(u0:0≤u)(u1:u<4294967296)(RA:Hid (∀w,Calls prog 67 #[.int .i64 op] w fun e w'=>e=.returned (.agg #[.int .i64 3,.int .i64 o,.int .i64 a3,.int .i64 a7])∧Nw w w'))(w:World):
  Calls prog 58 #[.int .i64 op,.int .u32 u] w fun e w'=>e=.returned (.agg #[.int .i64 op,.int .i64 (Fld u 7 5),.int .i64 (Fld u 15 5),.int .i64 0,.int .i64 (oi (Zp 3) (II 3 u)),.bool false,.bool false])∧Nb w w':=by
 obtain⟨p0,p1⟩:=Ys u 7 (by decide) (by decide)
 obtain⟨q0,q1⟩:=Ys u 15 (by decide) (by decide)
 obtain⟨r0,r1⟩:=Ys u 20 (by decide) (by decide)
 go_enter func58,ntmps58
 go_wp2_with fail
 refine(RA.out _).mono ?_
 rintro e w1⟨rfl,hn1⟩
 go_wp2_with fail
 have hb1:=hn1.b.block (Z0 w _ rfl rfl)
 have hN1:Nb w w1:=((Nb.refl _).alloc _).trans hn1.b
 clear hn1
 refine(hs_3 _).mono ?_
 rintro e w2⟨rfl,hn2⟩
 have hb2:=hn2.b.block hb1
 have hN2:=hN1.trans hn2.b
 clear hb1 hN1 hn2
 go_wp2_with fail
 obtain⟨W2,hW2⟩:∃W2,w2.alloc (.cells #[.bool true,.bool true,.bool false,.bool true,.bool false] 129)=W2:=⟨_,rfl⟩
 have hh2:=Z0 w2 _ hW2 rfl
 have hn2:Nb w2 W2:=by rw[←hW2];exact(Nb.refl _).alloc _
 have hb2':=hn2.block hb2
 have hN2':=hN2.trans hn2
 rw[hW2]
 clear hW2 hb2 hN2 hn2
 refine(dval_3 u u0 u1 _).mono ?_
 rintro e w3⟨rfl,hn3⟩
 have hb3:=Lib.hid (hn3.b.block hb2')
 have hh3:=hn3.b.block hh2
 have hN3:=hN2'.trans hn3.b
 have n3:=lt_of_block hb3.out
 clear hb2' hh2 hN2' hn3
 obtain⟨n5,d0,d1,d2,d3,d4⟩:=X2 hh3
 clear hh3
 rename_i hK1 _ hK
 refine hK _ _ ?_
 clear hK
 refine wpList_buildTo rfl 50 _ rfl (some 17) rfl #[.int .i64 op,.int .i64 0,.int .i64 0,.int .i64 0,.int .i64 (oi (Zp 3) (II 3 u)),.bool false,.bool false] (by kernel_rfl) ?_
 refine wpList_allocTo rfl (some 7) rfl (.pointer (some ⟨w3.heap.size,0,none⟩)) (.cells #[.int .i64 0,.int .i64 0,.int .i64 0,.int .i64 0,.int .i64 0,.bool false,.bool false] 50) (by kernel_rfl) ?_
 refine wpList_store_row rfl 50 _ _ rfl w3.heap.size #[.int .i64 op,.int .i64 0,.int .i64 0,.int .i64 0,.int .i64 (oi (Zp 3) (II 3 u)),.bool false,.bool false] rfl rfl 50 _ (heap_alloc_new _ _) (by kernel_rfl) rfl (by kernel_rfl) ?_
 refine wpList_nil ?_
 refine hK1 _ _ ?_
 clear hK1
 rw[World.setRow_alloc_new]
 go_upto_region 13 with(go_at_call 94;refine(Y1 _ _ _ u0 u1 _).mono ?_;rintro e w'⟨rfl,rfl⟩)
 apply wp_region_list
 refine wpList_load_row rfl 50 _ rfl w3.heap.size rfl 50 #[.int .i64 op,.int .i64 (Fld u 7 5),.int .i64 (Fld u 15 5),.int .i64 0,.int .i64 (oi (Zp 3) (II 3 u)),.bool false,.bool false] (0,0) _ (heap_alloc_new _ _) underlying50 rfl (by kernel_rfl) ?_
 refine wpList_store_row rfl 50 _ _ rfl w.heap.size #[.int .i64 op,.int .i64 (Fld u 7 5),.int .i64 (Fld u 15 5),.int .i64 0,.int .i64 (oi (Zp 3) (II 3 u)),.bool false,.bool false] rfl rfl 50 #[.int .i64 0,.int .i64 0,.int .i64 0,.int .i64 0,.int .i64 0,.bool false,.bool false] ((heap_alloc_old _ _ n3).trans hb3.out) (by kernel_rfl) rfl (by kernel_rfl) ?_
 refine wpList_nil ?_
 rename_i hK
 refine hK _ _ ?_
 clear hK
 go_wp2_with fail
 refine bodyPost_ret (v:= .agg #[.int .i64 op,.int .i64 (Fld u 7 5),.int .i64 (Fld u 15 5),.int .i64 0,.int .i64 (oi (Zp 3) (II 3 u)),.bool false,.bool false]) (results_cell_row rfl _ _ w.heap.size 50 _ (0,0) _ rfl (setRow_heap _ _ _ _ _ _ ((heap_alloc_old _ _ n3).trans hb3.out)) underlying50 rfl (by kernel_rfl)) rfl ⟨rfl,?_⟩
 exact(hN3.alloc _).setRow (Nat.le_refl _) _
theorem as_4(op u o a3 a7:Int)(u0:0≤u)(u1:u<4294967296)(RA:Hid (∀w,Calls prog 67 #[.int .i64 op] w fun e w'=>e=.returned (.agg #[.int .i64 4,.int .i64 o,.int .i64 a3,.int .i64 a7])∧Nw w w'))(w:World):
  Calls prog 58 #[.int .i64 op,.int .u32 u] w fun e w'=>e=.returned (.agg #[.int .i64 op,.int .i64 0,.int .i64 (Fld u 15 5),.int .i64 (Fld u 20 5),.int .i64 (oi (Zp 4) (II 4 u)),.bool false,.bool false])∧Nb w w':=by
 obtain⟨p0,p1⟩:=Ys u 7 (by decide) (by decide)
 obtain⟨q0,q1⟩:=Ys u 15 (by decide) (by decide)
 obtain⟨r0,r1⟩:=Ys u 20 (by decide) (by decide)
 go_enter func58,ntmps58
 go_wp2_with fail
 refine(RA.out _).mono ?_
 rintro e w1⟨rfl,hn1⟩
 go_wp2_with fail
 have hb1:=hn1.b.block (Z0 w _ rfl rfl)
 have hN1:Nb w w1:=((Nb.refl _).alloc _).trans hn1.b
 clear hn1
 refine(hs_4 _).mono ?_
 rintro e w2⟨rfl,hn2⟩
 have hb2:=hn2.b.block hb1
 have hN2:=hN1.trans hn2.b
 clear hb1 hN1 hn2
 go_wp2_with fail
 obtain⟨W2,hW2⟩:∃W2,w2.alloc (.cells #[.bool false,.bool true,.bool true,.bool true,.bool false] 129)=W2:=⟨_,rfl⟩
 have hh2:=Z0 w2 _ hW2 rfl
 have hn2:Nb w2 W2:=by rw[←hW2];exact(Nb.refl _).alloc _
 have hb2':=hn2.block hb2
 have hN2':=hN2.trans hn2
 rw[hW2]
 clear hW2 hb2 hN2 hn2
 refine(dval_4 u u0 u1 _).mono ?_
 rintro e w3⟨rfl,hn3⟩
 have hb3:=Lib.hid (hn3.b.block hb2')
 have hh3:=hn3.b.block hh2
 have hN3:=hN2'.trans hn3.b
 have n3:=lt_of_block hb3.out
 clear hb2' hh2 hN2' hn3
 obtain⟨n5,d0,d1,d2,d3,d4⟩:=X2 hh3
 clear hh3
 rename_i hK1 _ hK
 refine hK _ _ ?_
 clear hK
 refine wpList_buildTo rfl 50 _ rfl (some 17) rfl #[.int .i64 op,.int .i64 0,.int .i64 0,.int .i64 0,.int .i64 (oi (Zp 4) (II 4 u)),.bool false,.bool false] (by kernel_rfl) ?_
 refine wpList_allocTo rfl (some 7) rfl (.pointer (some ⟨w3.heap.size,0,none⟩)) (.cells #[.int .i64 0,.int .i64 0,.int .i64 0,.int .i64 0,.int .i64 0,.bool false,.bool false] 50) (by kernel_rfl) ?_
 refine wpList_store_row rfl 50 _ _ rfl w3.heap.size #[.int .i64 op,.int .i64 0,.int .i64 0,.int .i64 0,.int .i64 (oi (Zp 4) (II 4 u)),.bool false,.bool false] rfl rfl 50 _ (heap_alloc_new _ _) (by kernel_rfl) rfl (by kernel_rfl) ?_
 refine wpList_nil ?_
 refine hK1 _ _ ?_
 clear hK1
 rw[World.setRow_alloc_new]
 go_upto_region 13 with(go_at_call 94;refine(Y1 _ _ _ u0 u1 _).mono ?_;rintro e w'⟨rfl,rfl⟩)
 apply wp_region_list
 refine wpList_load_row rfl 50 _ rfl w3.heap.size rfl 50 #[.int .i64 op,.int .i64 0,.int .i64 (Fld u 15 5),.int .i64 (Fld u 20 5),.int .i64 (oi (Zp 4) (II 4 u)),.bool false,.bool false] (0,0) _ (heap_alloc_new _ _) underlying50 rfl (by kernel_rfl) ?_
 refine wpList_store_row rfl 50 _ _ rfl w.heap.size #[.int .i64 op,.int .i64 0,.int .i64 (Fld u 15 5),.int .i64 (Fld u 20 5),.int .i64 (oi (Zp 4) (II 4 u)),.bool false,.bool false] rfl rfl 50 #[.int .i64 0,.int .i64 0,.int .i64 0,.int .i64 0,.int .i64 0,.bool false,.bool false] ((heap_alloc_old _ _ n3).trans hb3.out) (by kernel_rfl) rfl (by kernel_rfl) ?_
 refine wpList_nil ?_
 rename_i hK
 refine hK _ _ ?_
 clear hK
 go_wp2_with fail
 refine bodyPost_ret (v:= .agg #[.int .i64 op,.int .i64 0,.int .i64 (Fld u 15 5),.int .i64 (Fld u 20 5),.int .i64 (oi (Zp 4) (II 4 u)),.bool false,.bool false]) (results_cell_row rfl _ _ w.heap.size 50 _ (0,0) _ rfl (setRow_heap _ _ _ _ _ _ ((heap_alloc_old _ _ n3).trans hb3.out)) underlying50 rfl (by kernel_rfl)) rfl ⟨rfl,?_⟩
 exact(hN3.alloc _).setRow (Nat.le_refl _) _
theorem as_5(op u o a3 a7:Int)(u0:0≤u)(u1:u<4294967296)(RA:Hid (∀w,Calls prog 67 #[.int .i64 op] w fun e w'=>e=.returned (.agg #[.int .i64 5,.int .i64 o,.int .i64 a3,.int .i64 a7])∧Nw w w'))(w:World):
  Calls prog 58 #[.int .i64 op,.int .u32 u] w fun e w'=>e=.returned (.agg #[.int .i64 op,.int .i64 0,.int .i64 (Fld u 15 5),.int .i64 (Fld u 20 5),.int .i64 (oi (Zp 5) (II 5 u)),.bool false,.bool false])∧Nb w w':=by
 obtain⟨p0,p1⟩:=Ys u 7 (by decide) (by decide)
 obtain⟨q0,q1⟩:=Ys u 15 (by decide) (by decide)
 obtain⟨r0,r1⟩:=Ys u 20 (by decide) (by decide)
 go_enter func58,ntmps58
 go_wp2_with fail
 refine(RA.out _).mono ?_
 rintro e w1⟨rfl,hn1⟩
 go_wp2_with fail
 have hb1:=hn1.b.block (Z0 w _ rfl rfl)
 have hN1:Nb w w1:=((Nb.refl _).alloc _).trans hn1.b
 clear hn1
 refine(hs_5 _).mono ?_
 rintro e w2⟨rfl,hn2⟩
 have hb2:=hn2.b.block hb1
 have hN2:=hN1.trans hn2.b
 clear hb1 hN1 hn2
 go_wp2_with fail
 obtain⟨W2,hW2⟩:∃W2,w2.alloc (.cells #[.bool false,.bool true,.bool true,.bool true,.bool false] 129)=W2:=⟨_,rfl⟩
 have hh2:=Z0 w2 _ hW2 rfl
 have hn2:Nb w2 W2:=by rw[←hW2];exact(Nb.refl _).alloc _
 have hb2':=hn2.block hb2
 have hN2':=hN2.trans hn2
 rw[hW2]
 clear hW2 hb2 hN2 hn2
 refine(dval_5 u u0 u1 _).mono ?_
 rintro e w3⟨rfl,hn3⟩
 have hb3:=Lib.hid (hn3.b.block hb2')
 have hh3:=hn3.b.block hh2
 have hN3:=hN2'.trans hn3.b
 have n3:=lt_of_block hb3.out
 clear hb2' hh2 hN2' hn3
 obtain⟨n5,d0,d1,d2,d3,d4⟩:=X2 hh3
 clear hh3
 rename_i hK1 _ hK
 refine hK _ _ ?_
 clear hK
 refine wpList_buildTo rfl 50 _ rfl (some 17) rfl #[.int .i64 op,.int .i64 0,.int .i64 0,.int .i64 0,.int .i64 (oi (Zp 5) (II 5 u)),.bool false,.bool false] (by kernel_rfl) ?_
 refine wpList_allocTo rfl (some 7) rfl (.pointer (some ⟨w3.heap.size,0,none⟩)) (.cells #[.int .i64 0,.int .i64 0,.int .i64 0,.int .i64 0,.int .i64 0,.bool false,.bool false] 50) (by kernel_rfl) ?_
 refine wpList_store_row rfl 50 _ _ rfl w3.heap.size #[.int .i64 op,.int .i64 0,.int .i64 0,.int .i64 0,.int .i64 (oi (Zp 5) (II 5 u)),.bool false,.bool false] rfl rfl 50 _ (heap_alloc_new _ _) (by kernel_rfl) rfl (by kernel_rfl) ?_
 refine wpList_nil ?_
 refine hK1 _ _ ?_
 clear hK1
 rw[World.setRow_alloc_new]
 go_upto_region 13 with(go_at_call 94;refine(Y1 _ _ _ u0 u1 _).mono ?_;rintro e w'⟨rfl,rfl⟩)
 apply wp_region_list
 refine wpList_load_row rfl 50 _ rfl w3.heap.size rfl 50 #[.int .i64 op,.int .i64 0,.int .i64 (Fld u 15 5),.int .i64 (Fld u 20 5),.int .i64 (oi (Zp 5) (II 5 u)),.bool false,.bool false] (0,0) _ (heap_alloc_new _ _) underlying50 rfl (by kernel_rfl) ?_
 refine wpList_store_row rfl 50 _ _ rfl w.heap.size #[.int .i64 op,.int .i64 0,.int .i64 (Fld u 15 5),.int .i64 (Fld u 20 5),.int .i64 (oi (Zp 5) (II 5 u)),.bool false,.bool false] rfl rfl 50 #[.int .i64 0,.int .i64 0,.int .i64 0,.int .i64 0,.int .i64 0,.bool false,.bool false] ((heap_alloc_old _ _ n3).trans hb3.out) (by kernel_rfl) rfl (by kernel_rfl) ?_
 refine wpList_nil ?_
 rename_i hK
 refine hK _ _ ?_
 clear hK
 go_wp2_with fail
 refine bodyPost_ret (v:= .agg #[.int .i64 op,.int .i64 0,.int .i64 (Fld u 15 5),.int .i64 (Fld u 20 5),.int .i64 (oi (Zp 5) (II 5 u)),.bool false,.bool false]) (results_cell_row rfl _ _ w.heap.size 50 _ (0,0) _ rfl (setRow_heap _ _ _ _ _ _ ((heap_alloc_old _ _ n3).trans hb3.out)) underlying50 rfl (by kernel_rfl)) rfl ⟨rfl,?_⟩
 exact(hN3.alloc _).setRow (Nat.le_refl _) _
theorem as_6(op u o a3 a7:Int)(u0:0≤u)(u1:u<4294967296)(RA:Hid (∀w,Calls prog 67 #[.int .i64 op] w fun e w'=>e=.returned (.agg #[.int .i64 6,.int .i64 o,.int .i64 a3,.int .i64 a7])∧Nw w w'))(w:World):
  Calls prog 58 #[.int .i64 op,.int .u32 u] w fun e w'=>e=.returned (.agg #[.int .i64 op,.int .i64 (Fld u 7 5),.int .i64 (Fld u 15 5),.int .i64 0,.int .i64 (oi (Zp 6) (II 6 u)),.bool false,.bool false])∧Nb w w':=by
 obtain⟨p0,p1⟩:=Ys u 7 (by decide) (by decide)
 obtain⟨q0,q1⟩:=Ys u 15 (by decide) (by decide)
 obtain⟨r0,r1⟩:=Ys u 20 (by decide) (by decide)
 go_enter func58,ntmps58
 go_wp2_with fail
 refine(RA.out _).mono ?_
 rintro e w1⟨rfl,hn1⟩
 go_wp2_with fail
 have hb1:=hn1.b.block (Z0 w _ rfl rfl)
 have hN1:Nb w w1:=((Nb.refl _).alloc _).trans hn1.b
 clear hn1
 refine(hs_6 _).mono ?_
 rintro e w2⟨rfl,hn2⟩
 have hb2:=hn2.b.block hb1
 have hN2:=hN1.trans hn2.b
 clear hb1 hN1 hn2
 go_wp2_with fail
 obtain⟨W2,hW2⟩:∃W2,w2.alloc (.cells #[.bool true,.bool true,.bool false,.bool true,.bool false] 129)=W2:=⟨_,rfl⟩
 have hh2:=Z0 w2 _ hW2 rfl
 have hn2:Nb w2 W2:=by rw[←hW2];exact(Nb.refl _).alloc _
 have hb2':=hn2.block hb2
 have hN2':=hN2.trans hn2
 rw[hW2]
 clear hW2 hb2 hN2 hn2
 refine(dval_6 u u0 u1 _).mono ?_
 rintro e w3⟨rfl,hn3⟩
 have hb3:=Lib.hid (hn3.b.block hb2')
 have hh3:=hn3.b.block hh2
 have hN3:=hN2'.trans hn3.b
 have n3:=lt_of_block hb3.out
 clear hb2' hh2 hN2' hn3
 obtain⟨n5,d0,d1,d2,d3,d4⟩:=X2 hh3
 clear hh3
 rename_i hK1 _ hK
 refine hK _ _ ?_
 clear hK
 refine wpList_buildTo rfl 50 _ rfl (some 17) rfl #[.int .i64 op,.int .i64 0,.int .i64 0,.int .i64 0,.int .i64 (oi (Zp 6) (II 6 u)),.bool false,.bool false] (by kernel_rfl) ?_
 refine wpList_allocTo rfl (some 7) rfl (.pointer (some ⟨w3.heap.size,0,none⟩)) (.cells #[.int .i64 0,.int .i64 0,.int .i64 0,.int .i64 0,.int .i64 0,.bool false,.bool false] 50) (by kernel_rfl) ?_
 refine wpList_store_row rfl 50 _ _ rfl w3.heap.size #[.int .i64 op,.int .i64 0,.int .i64 0,.int .i64 0,.int .i64 (oi (Zp 6) (II 6 u)),.bool false,.bool false] rfl rfl 50 _ (heap_alloc_new _ _) (by kernel_rfl) rfl (by kernel_rfl) ?_
 refine wpList_nil ?_
 refine hK1 _ _ ?_
 clear hK1
 rw[World.setRow_alloc_new]
 go_upto_region 13 with(go_at_call 94;refine(Y1 _ _ _ u0 u1 _).mono ?_;rintro e w'⟨rfl,rfl⟩)
 apply wp_region_list
 refine wpList_load_row rfl 50 _ rfl w3.heap.size rfl 50 #[.int .i64 op,.int .i64 (Fld u 7 5),.int .i64 (Fld u 15 5),.int .i64 0,.int .i64 (oi (Zp 6) (II 6 u)),.bool false,.bool false] (0,0) _ (heap_alloc_new _ _) underlying50 rfl (by kernel_rfl) ?_
 refine wpList_store_row rfl 50 _ _ rfl w.heap.size #[.int .i64 op,.int .i64 (Fld u 7 5),.int .i64 (Fld u 15 5),.int .i64 0,.int .i64 (oi (Zp 6) (II 6 u)),.bool false,.bool false] rfl rfl 50 #[.int .i64 0,.int .i64 0,.int .i64 0,.int .i64 0,.int .i64 0,.bool false,.bool false] ((heap_alloc_old _ _ n3).trans hb3.out) (by kernel_rfl) rfl (by kernel_rfl) ?_
 refine wpList_nil ?_
 rename_i hK
 refine hK _ _ ?_
 clear hK
 go_wp2_with fail
 refine bodyPost_ret (v:= .agg #[.int .i64 op,.int .i64 (Fld u 7 5),.int .i64 (Fld u 15 5),.int .i64 0,.int .i64 (oi (Zp 6) (II 6 u)),.bool false,.bool false]) (results_cell_row rfl _ _ w.heap.size 50 _ (0,0) _ rfl (setRow_heap _ _ _ _ _ _ ((heap_alloc_old _ _ n3).trans hb3.out)) underlying50 rfl (by kernel_rfl)) rfl ⟨rfl,?_⟩
 exact(hN3.alloc _).setRow (Nat.le_refl _) _
theorem as_7(op u o a3 a7:Int)(u0:0≤u)(u1:u<4294967296)(RA:Hid (∀w,Calls prog 67 #[.int .i64 op] w fun e w'=>e=.returned (.agg #[.int .i64 7,.int .i64 o,.int .i64 a3,.int .i64 a7])∧Nw w w'))(w:World):
  Calls prog 58 #[.int .i64 op,.int .u32 u] w fun e w'=>e=.returned (.agg #[.int .i64 op,.int .i64 (Fld u 7 5),.int .i64 (Fld u 15 5),.int .i64 0,.int .i64 (oi (Zp 7) (II 7 u)),.bool false,.bool false])∧Nb w w':=by
 obtain⟨p0,p1⟩:=Ys u 7 (by decide) (by decide)
 obtain⟨q0,q1⟩:=Ys u 15 (by decide) (by decide)
 obtain⟨r0,r1⟩:=Ys u 20 (by decide) (by decide)
 go_enter func58,ntmps58
 go_wp2_with fail
 refine(RA.out _).mono ?_
 rintro e w1⟨rfl,hn1⟩
 go_wp2_with fail
 have hb1:=hn1.b.block (Z0 w _ rfl rfl)
 have hN1:Nb w w1:=((Nb.refl _).alloc _).trans hn1.b
 clear hn1
 refine(hs_7 _).mono ?_
 rintro e w2⟨rfl,hn2⟩
 have hb2:=hn2.b.block hb1
 have hN2:=hN1.trans hn2.b
 clear hb1 hN1 hn2
 go_wp2_with fail
 obtain⟨W2,hW2⟩:∃W2,w2.alloc (.cells #[.bool true,.bool true,.bool false,.bool true,.bool false] 129)=W2:=⟨_,rfl⟩
 have hh2:=Z0 w2 _ hW2 rfl
 have hn2:Nb w2 W2:=by rw[←hW2];exact(Nb.refl _).alloc _
 have hb2':=hn2.block hb2
 have hN2':=hN2.trans hn2
 rw[hW2]
 clear hW2 hb2 hN2 hn2
 refine(dval_7 u u0 u1 _).mono ?_
 rintro e w3⟨rfl,hn3⟩
 have hb3:=Lib.hid (hn3.b.block hb2')
 have hh3:=hn3.b.block hh2
 have hN3:=hN2'.trans hn3.b
 have n3:=lt_of_block hb3.out
 clear hb2' hh2 hN2' hn3
 obtain⟨n5,d0,d1,d2,d3,d4⟩:=X2 hh3
 clear hh3
 rename_i hK1 _ hK
 refine hK _ _ ?_
 clear hK
 refine wpList_buildTo rfl 50 _ rfl (some 17) rfl #[.int .i64 op,.int .i64 0,.int .i64 0,.int .i64 0,.int .i64 (oi (Zp 7) (II 7 u)),.bool false,.bool false] (by kernel_rfl) ?_
 refine wpList_allocTo rfl (some 7) rfl (.pointer (some ⟨w3.heap.size,0,none⟩)) (.cells #[.int .i64 0,.int .i64 0,.int .i64 0,.int .i64 0,.int .i64 0,.bool false,.bool false] 50) (by kernel_rfl) ?_
 refine wpList_store_row rfl 50 _ _ rfl w3.heap.size #[.int .i64 op,.int .i64 0,.int .i64 0,.int .i64 0,.int .i64 (oi (Zp 7) (II 7 u)),.bool false,.bool false] rfl rfl 50 _ (heap_alloc_new _ _) (by kernel_rfl) rfl (by kernel_rfl) ?_
 refine wpList_nil ?_
 refine hK1 _ _ ?_
 clear hK1
 rw[World.setRow_alloc_new]
 go_upto_region 13 with(go_at_call 94;refine(Y1 _ _ _ u0 u1 _).mono ?_;rintro e w'⟨rfl,rfl⟩)
 apply wp_region_list
 refine wpList_load_row rfl 50 _ rfl w3.heap.size rfl 50 #[.int .i64 op,.int .i64 (Fld u 7 5),.int .i64 (Fld u 15 5),.int .i64 0,.int .i64 (oi (Zp 7) (II 7 u)),.bool false,.bool false] (0,0) _ (heap_alloc_new _ _) underlying50 rfl (by kernel_rfl) ?_
 refine wpList_store_row rfl 50 _ _ rfl w.heap.size #[.int .i64 op,.int .i64 (Fld u 7 5),.int .i64 (Fld u 15 5),.int .i64 0,.int .i64 (oi (Zp 7) (II 7 u)),.bool false,.bool false] rfl rfl 50 #[.int .i64 0,.int .i64 0,.int .i64 0,.int .i64 0,.int .i64 0,.bool false,.bool false] ((heap_alloc_old _ _ n3).trans hb3.out) (by kernel_rfl) rfl (by kernel_rfl) ?_
 refine wpList_nil ?_
 rename_i hK
 refine hK _ _ ?_
 clear hK
 go_wp2_with fail
 refine bodyPost_ret (v:= .agg #[.int .i64 op,.int .i64 (Fld u 7 5),.int .i64 (Fld u 15 5),.int .i64 0,.int .i64 (oi (Zp 7) (II 7 u)),.bool false,.bool false]) (results_cell_row rfl _ _ w.heap.size 50 _ (0,0) _ rfl (setRow_heap _ _ _ _ _ _ ((heap_alloc_old _ _ n3).trans hb3.out)) underlying50 rfl (by kernel_rfl)) rfl ⟨rfl,?_⟩
 exact(hN3.alloc _).setRow (Nat.le_refl _) _
theorem as_8(op u o a3 a7:Int)(u0:0≤u)(u1:u<4294967296)(RA:Hid (∀w,Calls prog 67 #[.int .i64 op] w fun e w'=>e=.returned (.agg #[.int .i64 8,.int .i64 o,.int .i64 a3,.int .i64 a7])∧Nw w w'))(w:World):
  Calls prog 58 #[.int .i64 op,.int .u32 u] w fun e w'=>e=.returned (.agg #[.int .i64 op,.int .i64 (Fld u 7 5),.int .i64 (Fld u 15 5),.int .i64 (Fld u 20 5),.int .i64 (oi (Zp 8) (II 8 u)),.bool false,.bool false])∧Nb w w':=by
 obtain⟨p0,p1⟩:=Ys u 7 (by decide) (by decide)
 obtain⟨q0,q1⟩:=Ys u 15 (by decide) (by decide)
 obtain⟨r0,r1⟩:=Ys u 20 (by decide) (by decide)
 go_enter func58,ntmps58
 go_wp2_with fail
 refine(RA.out _).mono ?_
 rintro e w1⟨rfl,hn1⟩
 go_wp2_with fail
 have hb1:=hn1.b.block (Z0 w _ rfl rfl)
 have hN1:Nb w w1:=((Nb.refl _).alloc _).trans hn1.b
 clear hn1
 refine(hs_8 _).mono ?_
 rintro e w2⟨rfl,hn2⟩
 have hb2:=hn2.b.block hb1
 have hN2:=hN1.trans hn2.b
 clear hb1 hN1 hn2
 go_wp2_with fail
 obtain⟨W2,hW2⟩:∃W2,w2.alloc (.cells #[.bool true,.bool true,.bool true,.bool false,.bool false] 129)=W2:=⟨_,rfl⟩
 have hh2:=Z0 w2 _ hW2 rfl
 have hn2:Nb w2 W2:=by rw[←hW2];exact(Nb.refl _).alloc _
 have hb2':=hn2.block hb2
 have hN2':=hN2.trans hn2
 rw[hW2]
 clear hW2 hb2 hN2 hn2
 refine(dval_8 u u0 u1 _).mono ?_
 rintro e w3⟨rfl,hn3⟩
 have hb3:=Lib.hid (hn3.b.block hb2')
 have hh3:=hn3.b.block hh2
 have hN3:=hN2'.trans hn3.b
 have n3:=lt_of_block hb3.out
 clear hb2' hh2 hN2' hn3
 obtain⟨n5,d0,d1,d2,d3,d4⟩:=X2 hh3
 clear hh3
 rename_i hK1 _ hK
 refine hK _ _ ?_
 clear hK
 refine wpList_buildTo rfl 50 _ rfl (some 17) rfl #[.int .i64 op,.int .i64 0,.int .i64 0,.int .i64 0,.int .i64 (oi (Zp 8) (II 8 u)),.bool false,.bool false] (by kernel_rfl) ?_
 refine wpList_allocTo rfl (some 7) rfl (.pointer (some ⟨w3.heap.size,0,none⟩)) (.cells #[.int .i64 0,.int .i64 0,.int .i64 0,.int .i64 0,.int .i64 0,.bool false,.bool false] 50) (by kernel_rfl) ?_
 refine wpList_store_row rfl 50 _ _ rfl w3.heap.size #[.int .i64 op,.int .i64 0,.int .i64 0,.int .i64 0,.int .i64 (oi (Zp 8) (II 8 u)),.bool false,.bool false] rfl rfl 50 _ (heap_alloc_new _ _) (by kernel_rfl) rfl (by kernel_rfl) ?_
 refine wpList_nil ?_
 refine hK1 _ _ ?_
 clear hK1
 rw[World.setRow_alloc_new]
 go_upto_region 13 with(go_at_call 94;refine(Y1 _ _ _ u0 u1 _).mono ?_;rintro e w'⟨rfl,rfl⟩)
 apply wp_region_list
 refine wpList_load_row rfl 50 _ rfl w3.heap.size rfl 50 #[.int .i64 op,.int .i64 (Fld u 7 5),.int .i64 (Fld u 15 5),.int .i64 (Fld u 20 5),.int .i64 (oi (Zp 8) (II 8 u)),.bool false,.bool false] (0,0) _ (heap_alloc_new _ _) underlying50 rfl (by kernel_rfl) ?_
 refine wpList_store_row rfl 50 _ _ rfl w.heap.size #[.int .i64 op,.int .i64 (Fld u 7 5),.int .i64 (Fld u 15 5),.int .i64 (Fld u 20 5),.int .i64 (oi (Zp 8) (II 8 u)),.bool false,.bool false] rfl rfl 50 #[.int .i64 0,.int .i64 0,.int .i64 0,.int .i64 0,.int .i64 0,.bool false,.bool false] ((heap_alloc_old _ _ n3).trans hb3.out) (by kernel_rfl) rfl (by kernel_rfl) ?_
 refine wpList_nil ?_
 rename_i hK
 refine hK _ _ ?_
 clear hK
 go_wp2_with fail
 refine bodyPost_ret (v:= .agg #[.int .i64 op,.int .i64 (Fld u 7 5),.int .i64 (Fld u 15 5),.int .i64 (Fld u 20 5),.int .i64 (oi (Zp 8) (II 8 u)),.bool false,.bool false]) (results_cell_row rfl _ _ w.heap.size 50 _ (0,0) _ rfl (setRow_heap _ _ _ _ _ _ ((heap_alloc_old _ _ n3).trans hb3.out)) underlying50 rfl (by kernel_rfl)) rfl ⟨rfl,?_⟩
 exact(hN3.alloc _).setRow (Nat.le_refl _) _
theorem as_9(op u o a3 a7:Int)(u0:0≤u)(u1:u<4294967296)(RA:Hid (∀w,Calls prog 67 #[.int .i64 op] w fun e w'=>e=.returned (.agg #[.int .i64 9,.int .i64 o,.int .i64 a3,.int .i64 a7])∧Nw w w'))(w:World):
  Calls prog 58 #[.int .i64 op,.int .u32 u] w fun e w'=>e=.returned (.agg #[.int .i64 op,.int .i64 0,.int .i64 0,.int .i64 0,.int .i64 (oi (Zp 9) (II 9 u)),.bool false,.bool false])∧Nb w w':=by
 obtain⟨p0,p1⟩:=Ys u 7 (by decide) (by decide)
 obtain⟨q0,q1⟩:=Ys u 15 (by decide) (by decide)
 obtain⟨r0,r1⟩:=Ys u 20 (by decide) (by decide)
 go_enter func58,ntmps58
 go_wp2_with fail
 refine(RA.out _).mono ?_
 rintro e w1⟨rfl,hn1⟩
 go_wp2_with fail
 have hb1:=hn1.b.block (Z0 w _ rfl rfl)
 have hN1:Nb w w1:=((Nb.refl _).alloc _).trans hn1.b
 clear hn1
 refine(hs_9 _).mono ?_
 rintro e w2⟨rfl,hn2⟩
 have hb2:=hn2.b.block hb1
 have hN2:=hN1.trans hn2.b
 clear hb1 hN1 hn2
 go_wp2_with fail
 obtain⟨W2,hW2⟩:∃W2,w2.alloc (.cells #[.bool false,.bool false,.bool false,.bool true,.bool false] 129)=W2:=⟨_,rfl⟩
 have hh2:=Z0 w2 _ hW2 rfl
 have hn2:Nb w2 W2:=by rw[←hW2];exact(Nb.refl _).alloc _
 have hb2':=hn2.block hb2
 have hN2':=hN2.trans hn2
 rw[hW2]
 clear hW2 hb2 hN2 hn2
 refine(dval_9 u u0 u1 _).mono ?_
 rintro e w3⟨rfl,hn3⟩
 have hb3:=Lib.hid (hn3.b.block hb2')
 have hh3:=hn3.b.block hh2
 have hN3:=hN2'.trans hn3.b
 have n3:=lt_of_block hb3.out
 clear hb2' hh2 hN2' hn3
 obtain⟨n5,d0,d1,d2,d3,d4⟩:=X2 hh3
 clear hh3
 rename_i hK1 _ hK
 refine hK _ _ ?_
 clear hK
 refine wpList_buildTo rfl 50 _ rfl (some 17) rfl #[.int .i64 op,.int .i64 0,.int .i64 0,.int .i64 0,.int .i64 (oi (Zp 9) (II 9 u)),.bool false,.bool false] (by kernel_rfl) ?_
 refine wpList_allocTo rfl (some 7) rfl (.pointer (some ⟨w3.heap.size,0,none⟩)) (.cells #[.int .i64 0,.int .i64 0,.int .i64 0,.int .i64 0,.int .i64 0,.bool false,.bool false] 50) (by kernel_rfl) ?_
 refine wpList_store_row rfl 50 _ _ rfl w3.heap.size #[.int .i64 op,.int .i64 0,.int .i64 0,.int .i64 0,.int .i64 (oi (Zp 9) (II 9 u)),.bool false,.bool false] rfl rfl 50 _ (heap_alloc_new _ _) (by kernel_rfl) rfl (by kernel_rfl) ?_
 refine wpList_nil ?_
 refine hK1 _ _ ?_
 clear hK1
 rw[World.setRow_alloc_new]
 go_upto_region 13 with(go_at_call 94;refine(Y1 _ _ _ u0 u1 _).mono ?_;rintro e w'⟨rfl,rfl⟩)
 apply wp_region_list
 refine wpList_load_row rfl 50 _ rfl w3.heap.size rfl 50 #[.int .i64 op,.int .i64 0,.int .i64 0,.int .i64 0,.int .i64 (oi (Zp 9) (II 9 u)),.bool false,.bool false] (0,0) _ (heap_alloc_new _ _) underlying50 rfl (by kernel_rfl) ?_
 refine wpList_store_row rfl 50 _ _ rfl w.heap.size #[.int .i64 op,.int .i64 0,.int .i64 0,.int .i64 0,.int .i64 (oi (Zp 9) (II 9 u)),.bool false,.bool false] rfl rfl 50 #[.int .i64 0,.int .i64 0,.int .i64 0,.int .i64 0,.int .i64 0,.bool false,.bool false] ((heap_alloc_old _ _ n3).trans hb3.out) (by kernel_rfl) rfl (by kernel_rfl) ?_
 refine wpList_nil ?_
 rename_i hK
 refine hK _ _ ?_
 clear hK
 go_wp2_with fail
 refine bodyPost_ret (v:= .agg #[.int .i64 op,.int .i64 0,.int .i64 0,.int .i64 0,.int .i64 (oi (Zp 9) (II 9 u)),.bool false,.bool false]) (results_cell_row rfl _ _ w.heap.size 50 _ (0,0) _ rfl (setRow_heap _ _ _ _ _ _ ((heap_alloc_old _ _ n3).trans hb3.out)) underlying50 rfl (by kernel_rfl)) rfl ⟨rfl,?_⟩
 exact(hN3.alloc _).setRow (Nat.le_refl _) _
theorem as_10(op u o a3 a7:Int)(u0:0≤u)(u1:u<4294967296)(RA:Hid (∀w,Calls prog 67 #[.int .i64 op] w fun e w'=>e=.returned (.agg #[.int .i64 10,.int .i64 o,.int .i64 a3,.int .i64 a7])∧Nw w w'))(w:World):
  Calls prog 58 #[.int .i64 op,.int .u32 u] w fun e w'=>e=.returned (.agg #[.int .i64 op,.int .i64 0,.int .i64 0,.int .i64 0,.int .i64 (oi (Zp 10) (II 10 u)),.bool false,.bool false])∧Nb w w':=by
 obtain⟨p0,p1⟩:=Ys u 7 (by decide) (by decide)
 obtain⟨q0,q1⟩:=Ys u 15 (by decide) (by decide)
 obtain⟨r0,r1⟩:=Ys u 20 (by decide) (by decide)
 go_enter func58,ntmps58
 go_wp2_with fail
 refine(RA.out _).mono ?_
 rintro e w1⟨rfl,hn1⟩
 go_wp2_with fail
 have hb1:=hn1.b.block (Z0 w _ rfl rfl)
 have hN1:Nb w w1:=((Nb.refl _).alloc _).trans hn1.b
 clear hn1
 refine(hs_10 _).mono ?_
 rintro e w2⟨rfl,hn2⟩
 have hb2:=hn2.b.block hb1
 have hN2:=hN1.trans hn2.b
 clear hb1 hN1 hn2
 go_wp2_with fail
 obtain⟨W2,hW2⟩:∃W2,w2.alloc (.cells #[.bool false,.bool false,.bool false,.bool false,.bool false] 129)=W2:=⟨_,rfl⟩
 have hh2:=Z0 w2 _ hW2 rfl
 have hn2:Nb w2 W2:=by rw[←hW2];exact(Nb.refl _).alloc _
 have hb2':=hn2.block hb2
 have hN2':=hN2.trans hn2
 rw[hW2]
 clear hW2 hb2 hN2 hn2
 refine(Z8f u u0 u1 _).mono ?_
 rintro e w3⟨rfl,hn3⟩
 have hb3:=Lib.hid (hn3.b.block hb2')
 have hh3:=hn3.b.block hh2
 have hN3:=hN2'.trans hn3.b
 have n3:=lt_of_block hb3.out
 clear hb2' hh2 hN2' hn3
 obtain⟨n5,d0,d1,d2,d3,d4⟩:=X2 hh3
 clear hh3
 rename_i hK1 _ hK
 refine hK _ _ ?_
 clear hK
 refine wpList_buildTo rfl 50 _ rfl (some 17) rfl #[.int .i64 op,.int .i64 0,.int .i64 0,.int .i64 0,.int .i64 (oi (Zp 10) (II 10 u)),.bool false,.bool false] (by kernel_rfl) ?_
 refine wpList_allocTo rfl (some 7) rfl (.pointer (some ⟨w3.heap.size,0,none⟩)) (.cells #[.int .i64 0,.int .i64 0,.int .i64 0,.int .i64 0,.int .i64 0,.bool false,.bool false] 50) (by kernel_rfl) ?_
 refine wpList_store_row rfl 50 _ _ rfl w3.heap.size #[.int .i64 op,.int .i64 0,.int .i64 0,.int .i64 0,.int .i64 (oi (Zp 10) (II 10 u)),.bool false,.bool false] rfl rfl 50 _ (heap_alloc_new _ _) (by kernel_rfl) rfl (by kernel_rfl) ?_
 refine wpList_nil ?_
 refine hK1 _ _ ?_
 clear hK1
 rw[World.setRow_alloc_new]
 go_upto_region 13 with(go_at_call 94;refine(Y1 _ _ _ u0 u1 _).mono ?_;rintro e w'⟨rfl,rfl⟩)
 apply wp_region_list
 refine wpList_load_row rfl 50 _ rfl w3.heap.size rfl 50 #[.int .i64 op,.int .i64 0,.int .i64 0,.int .i64 0,.int .i64 (oi (Zp 10) (II 10 u)),.bool false,.bool false] (0,0) _ (heap_alloc_new _ _) underlying50 rfl (by kernel_rfl) ?_
 refine wpList_store_row rfl 50 _ _ rfl w.heap.size #[.int .i64 op,.int .i64 0,.int .i64 0,.int .i64 0,.int .i64 (oi (Zp 10) (II 10 u)),.bool false,.bool false] rfl rfl 50 #[.int .i64 0,.int .i64 0,.int .i64 0,.int .i64 0,.int .i64 0,.bool false,.bool false] ((heap_alloc_old _ _ n3).trans hb3.out) (by kernel_rfl) rfl (by kernel_rfl) ?_
 refine wpList_nil ?_
 rename_i hK
 refine hK _ _ ?_
 clear hK
 go_wp2_with fail
 refine bodyPost_ret (v:= .agg #[.int .i64 op,.int .i64 0,.int .i64 0,.int .i64 0,.int .i64 (oi (Zp 10) (II 10 u)),.bool false,.bool false]) (results_cell_row rfl _ _ w.heap.size 50 _ (0,0) _ rfl (setRow_heap _ _ _ _ _ _ ((heap_alloc_old _ _ n3).trans hb3.out)) underlying50 rfl (by kernel_rfl)) rfl ⟨rfl,?_⟩
 exact(hN3.alloc _).setRow (Nat.le_refl _) _
theorem as_11(op u o a3 a7:Int)(u0:0≤u)(u1:u<4294967296)(RA:Hid (∀w,Calls prog 67 #[.int .i64 op] w fun e w'=>e=.returned (.agg #[.int .i64 11,.int .i64 o,.int .i64 a3,.int .i64 a7])∧Nw w w'))(w:World):
  Calls prog 58 #[.int .i64 op,.int .u32 u] w fun e w'=>e=.returned (.agg #[.int .i64 op,.int .i64 (Fld u 7 5),.int .i64 (Fld u 15 5),.int .i64 0,.int .i64 (oi (Zp 11) (II 11 u)),.bool (Fld u 26 1==1),.bool (Fld u 25 1==1)])∧Nb w w':=by
 obtain⟨p0,p1⟩:=Ys u 7 (by decide) (by decide)
 obtain⟨q0,q1⟩:=Ys u 15 (by decide) (by decide)
 obtain⟨r0,r1⟩:=Ys u 20 (by decide) (by decide)
 go_enter func58,ntmps58
 go_wp2_with fail
 refine(RA.out _).mono ?_
 rintro e w1⟨rfl,hn1⟩
 go_wp2_with fail
 have hb1:=hn1.b.block (Z0 w _ rfl rfl)
 have hN1:Nb w w1:=((Nb.refl _).alloc _).trans hn1.b
 clear hn1
 refine(hs_11 _).mono ?_
 rintro e w2⟨rfl,hn2⟩
 have hb2:=hn2.b.block hb1
 have hN2:=hN1.trans hn2.b
 clear hb1 hN1 hn2
 go_wp2_with fail
 obtain⟨W2,hW2⟩:∃W2,w2.alloc (.cells #[.bool true,.bool true,.bool false,.bool false,.bool true] 129)=W2:=⟨_,rfl⟩
 have hh2:=Z0 w2 _ hW2 rfl
 have hn2:Nb w2 W2:=by rw[←hW2];exact(Nb.refl _).alloc _
 have hb2':=hn2.block hb2
 have hN2':=hN2.trans hn2
 rw[hW2]
 clear hW2 hb2 hN2 hn2
 refine(Z8g u u0 u1 _).mono ?_
 rintro e w3⟨rfl,hn3⟩
 have hb3:=Lib.hid (hn3.b.block hb2')
 have hh3:=hn3.b.block hh2
 have hN3:=hN2'.trans hn3.b
 have n3:=lt_of_block hb3.out
 clear hb2' hh2 hN2' hn3
 obtain⟨n5,d0,d1,d2,d3,d4⟩:=X2 hh3
 clear hh3
 rename_i hK1 _ hK
 refine hK _ _ ?_
 clear hK
 refine wpList_buildTo rfl 50 _ rfl (some 17) rfl #[.int .i64 op,.int .i64 0,.int .i64 0,.int .i64 0,.int .i64 (oi (Zp 11) (II 11 u)),.bool false,.bool false] (by kernel_rfl) ?_
 refine wpList_allocTo rfl (some 7) rfl (.pointer (some ⟨w3.heap.size,0,none⟩)) (.cells #[.int .i64 0,.int .i64 0,.int .i64 0,.int .i64 0,.int .i64 0,.bool false,.bool false] 50) (by kernel_rfl) ?_
 refine wpList_store_row rfl 50 _ _ rfl w3.heap.size #[.int .i64 op,.int .i64 0,.int .i64 0,.int .i64 0,.int .i64 (oi (Zp 11) (II 11 u)),.bool false,.bool false] rfl rfl 50 _ (heap_alloc_new _ _) (by kernel_rfl) rfl (by kernel_rfl) ?_
 refine wpList_nil ?_
 refine hK1 _ _ ?_
 clear hK1
 rw[World.setRow_alloc_new]
 go_upto_region 13 with(go_at_call 94;refine(Y1 _ _ _ u0 u1 _).mono ?_;rintro e w'⟨rfl,rfl⟩)
 apply wp_region_list
 refine wpList_load_row rfl 50 _ rfl w3.heap.size rfl 50 #[.int .i64 op,.int .i64 (Fld u 7 5),.int .i64 (Fld u 15 5),.int .i64 0,.int .i64 (oi (Zp 11) (II 11 u)),.bool (Fld u 26 1==1),.bool (Fld u 25 1==1)] (0,0) _ (heap_alloc_new _ _) underlying50 rfl (by kernel_rfl) ?_
 refine wpList_store_row rfl 50 _ _ rfl w.heap.size #[.int .i64 op,.int .i64 (Fld u 7 5),.int .i64 (Fld u 15 5),.int .i64 0,.int .i64 (oi (Zp 11) (II 11 u)),.bool (Fld u 26 1==1),.bool (Fld u 25 1==1)] rfl rfl 50 #[.int .i64 0,.int .i64 0,.int .i64 0,.int .i64 0,.int .i64 0,.bool false,.bool false] ((heap_alloc_old _ _ n3).trans hb3.out) (by kernel_rfl) rfl (by kernel_rfl) ?_
 refine wpList_nil ?_
 rename_i hK
 refine hK _ _ ?_
 clear hK
 go_wp2_with fail
 refine bodyPost_ret (v:= .agg #[.int .i64 op,.int .i64 (Fld u 7 5),.int .i64 (Fld u 15 5),.int .i64 0,.int .i64 (oi (Zp 11) (II 11 u)),.bool (Fld u 26 1==1),.bool (Fld u 25 1==1)]) (results_cell_row rfl _ _ w.heap.size 50 _ (0,0) _ rfl (setRow_heap _ _ _ _ _ _ ((heap_alloc_old _ _ n3).trans hb3.out)) underlying50 rfl (by kernel_rfl)) rfl ⟨rfl,?_⟩
 exact(hN3.alloc _).setRow (Nat.le_refl _) _
theorem as_12(op u o a3 a7:Int)(u0:0≤u)(u1:u<4294967296)(RA:Hid (∀w,Calls prog 67 #[.int .i64 op] w fun e w'=>e=.returned (.agg #[.int .i64 12,.int .i64 o,.int .i64 a3,.int .i64 a7])∧Nw w w'))(w:World):
  Calls prog 58 #[.int .i64 op,.int .u32 u] w fun e w'=>e=.returned (.agg #[.int .i64 op,.int .i64 (Fld u 7 5),.int .i64 (Fld u 15 5),.int .i64 (Fld u 20 5),.int .i64 (oi (Zp 12) (II 12 u)),.bool (Fld u 26 1==1),.bool (Fld u 25 1==1)])∧Nb w w':=by
 obtain⟨p0,p1⟩:=Ys u 7 (by decide) (by decide)
 obtain⟨q0,q1⟩:=Ys u 15 (by decide) (by decide)
 obtain⟨r0,r1⟩:=Ys u 20 (by decide) (by decide)
 go_enter func58,ntmps58
 go_wp2_with fail
 refine(RA.out _).mono ?_
 rintro e w1⟨rfl,hn1⟩
 go_wp2_with fail
 have hb1:=hn1.b.block (Z0 w _ rfl rfl)
 have hN1:Nb w w1:=((Nb.refl _).alloc _).trans hn1.b
 clear hn1
 refine(hs_12 _).mono ?_
 rintro e w2⟨rfl,hn2⟩
 have hb2:=hn2.b.block hb1
 have hN2:=hN1.trans hn2.b
 clear hb1 hN1 hn2
 go_wp2_with fail
 obtain⟨W2,hW2⟩:∃W2,w2.alloc (.cells #[.bool true,.bool true,.bool true,.bool false,.bool true] 129)=W2:=⟨_,rfl⟩
 have hh2:=Z0 w2 _ hW2 rfl
 have hn2:Nb w2 W2:=by rw[←hW2];exact(Nb.refl _).alloc _
 have hb2':=hn2.block hb2
 have hN2':=hN2.trans hn2
 rw[hW2]
 clear hW2 hb2 hN2 hn2
 refine(Z8h u u0 u1 _).mono ?_
 rintro e w3⟨rfl,hn3⟩
 have hb3:=Lib.hid (hn3.b.block hb2')
 have hh3:=hn3.b.block hh2
 have hN3:=hN2'.trans hn3.b
 have n3:=lt_of_block hb3.out
 clear hb2' hh2 hN2' hn3
 obtain⟨n5,d0,d1,d2,d3,d4⟩:=X2 hh3
 clear hh3
 rename_i hK1 _ hK
 refine hK _ _ ?_
 clear hK
 refine wpList_buildTo rfl 50 _ rfl (some 17) rfl #[.int .i64 op,.int .i64 0,.int .i64 0,.int .i64 0,.int .i64 (oi (Zp 12) (II 12 u)),.bool false,.bool false] (by kernel_rfl) ?_
 refine wpList_allocTo rfl (some 7) rfl (.pointer (some ⟨w3.heap.size,0,none⟩)) (.cells #[.int .i64 0,.int .i64 0,.int .i64 0,.int .i64 0,.int .i64 0,.bool false,.bool false] 50) (by kernel_rfl) ?_
 refine wpList_store_row rfl 50 _ _ rfl w3.heap.size #[.int .i64 op,.int .i64 0,.int .i64 0,.int .i64 0,.int .i64 (oi (Zp 12) (II 12 u)),.bool false,.bool false] rfl rfl 50 _ (heap_alloc_new _ _) (by kernel_rfl) rfl (by kernel_rfl) ?_
 refine wpList_nil ?_
 refine hK1 _ _ ?_
 clear hK1
 rw[World.setRow_alloc_new]
 go_upto_region 13 with(go_at_call 94;refine(Y1 _ _ _ u0 u1 _).mono ?_;rintro e w'⟨rfl,rfl⟩)
 apply wp_region_list
 refine wpList_load_row rfl 50 _ rfl w3.heap.size rfl 50 #[.int .i64 op,.int .i64 (Fld u 7 5),.int .i64 (Fld u 15 5),.int .i64 (Fld u 20 5),.int .i64 (oi (Zp 12) (II 12 u)),.bool (Fld u 26 1==1),.bool (Fld u 25 1==1)] (0,0) _ (heap_alloc_new _ _) underlying50 rfl (by kernel_rfl) ?_
 refine wpList_store_row rfl 50 _ _ rfl w.heap.size #[.int .i64 op,.int .i64 (Fld u 7 5),.int .i64 (Fld u 15 5),.int .i64 (Fld u 20 5),.int .i64 (oi (Zp 12) (II 12 u)),.bool (Fld u 26 1==1),.bool (Fld u 25 1==1)] rfl rfl 50 #[.int .i64 0,.int .i64 0,.int .i64 0,.int .i64 0,.int .i64 0,.bool false,.bool false] ((heap_alloc_old _ _ n3).trans hb3.out) (by kernel_rfl) rfl (by kernel_rfl) ?_
 refine wpList_nil ?_
 rename_i hK
 refine hK _ _ ?_
 clear hK
 go_wp2_with fail
 refine bodyPost_ret (v:= .agg #[.int .i64 op,.int .i64 (Fld u 7 5),.int .i64 (Fld u 15 5),.int .i64 (Fld u 20 5),.int .i64 (oi (Zp 12) (II 12 u)),.bool (Fld u 26 1==1),.bool (Fld u 25 1==1)]) (results_cell_row rfl _ _ w.heap.size 50 _ (0,0) _ rfl (setRow_heap _ _ _ _ _ _ ((heap_alloc_old _ _ n3).trans hb3.out)) underlying50 rfl (by kernel_rfl)) rfl ⟨rfl,?_⟩
 exact(hN3.alloc _).setRow (Nat.le_refl _) _
theorem as_any(op u:Int)(u0:0≤u)(u1:u<4294967296)(w:World):
  Calls prog 58 #[.int .i64 op,.int .u32 u] w fun e w'=>e=.returned (.agg #[.int .i64 op,.int .i64 (Ird op u),.int .i64 (X8 op u),.int .i64 (X9 op u),.int .i64 (Iim op u),.bool (Iaq op u),.bool (Irl op u)])∧Nb w w':=by
 obtain⟨f0,f1,-⟩:=XI op
 have RA:=Xc op
 unfold Ird X8 X9 Iim Iaq Irl
 generalize (Z9 op).1=f at*
 generalize (Z9 op).2.1=o at*
 generalize (Z9 op).2.2.1=a3 at*
 generalize (Z9 op).2.2.2=a7 at*
 have hk:f=0∨f=1∨f=2∨f=3∨f=4∨f=5∨f=6∨f=7∨f=8∨f=9∨f=10∨f=11∨f=12:=by omega
 rcases hk with rfl|rfl|rfl|rfl|rfl|rfl|rfl|rfl|rfl|rfl|rfl|rfl|rfl
 ·exact as_0 op u o a3 a7 u0 u1 (Lib.hid RA) w
 ·exact as_1 op u o a3 a7 u0 u1 (Lib.hid RA) w
 ·exact as_2 op u o a3 a7 u0 u1 (Lib.hid RA) w
 ·exact as_3 op u o a3 a7 u0 u1 (Lib.hid RA) w
 ·exact as_4 op u o a3 a7 u0 u1 (Lib.hid RA) w
 ·exact as_5 op u o a3 a7 u0 u1 (Lib.hid RA) w
 ·exact as_6 op u o a3 a7 u0 u1 (Lib.hid RA) w
 ·exact as_7 op u o a3 a7 u0 u1 (Lib.hid RA) w
 ·exact as_8 op u o a3 a7 u0 u1 (Lib.hid RA) w
 ·exact as_9 op u o a3 a7 u0 u1 (Lib.hid RA) w
 ·exact as_10 op u o a3 a7 u0 u1 (Lib.hid RA) w
 ·exact as_11 op u o a3 a7 u0 u1 (Lib.hid RA) w
 ·exact as_12 op u o a3 a7 u0 u1 (Lib.hid RA) w
end Go.Proofs.YtgpdpaljbiclkaaGreatDoor

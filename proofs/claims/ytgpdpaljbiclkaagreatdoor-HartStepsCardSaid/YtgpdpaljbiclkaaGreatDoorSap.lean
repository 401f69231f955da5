/-
  Proved here: what the code's small functions on a pair of numbers answer. Conditions: the numbers are words. ¦ what the pair's words and the shifts' closures of the code answer. Conditions: the numbers are words; a closure's block holds its pair.
-/
import Derived.Test.YtgpdpaljbiclkaaGreatDoorSag
import Derived.Test.YtgpdpaljbiclkaaGreatDoorSan
import Derived.Test.YtgpdpaljbiclkaaGreatDoorSao
import Derived.StillTailTactics
import Derived.Deep.RegionHeld3
set_option maxHeartbeats 1000000
set_option maxRecDepth 100000
section
namespace Go.Proofs.YtgpdpaljbiclkaaGreatDoor
open _root_.Go.Proofs.Tryz
open Go.RowKit
set_option linter.unusedVariables false
def InU (x:Int):Prop:=0≤x∧x<18446744073709551616
def S64 (x:Int):Int:=wrap64 x
def LtS (a b:Int):Bool:=decide (S64 a<S64 b)
def LtU (a b:Int):Bool:=decide (a<b)
def Z1 (a b n:Int):Value:= .agg #[.int .u64 a,.int .u64 b,.int .i64 n]
theorem Z4y(a b:Int)(h0:0≤a)(h1:a<18446744073709551616)(g0:0≤b)(g1:b<18446744073709551616)(w:World):
  Calls prog 153 #[.int .u64 a,.int .u64 b] w fun e w'=>e=.returned (.int .u64 (Hu a b))∧Nb w w':=by
 go_enter func153,ntmps153
 go_wp2_with (go_at_call 156;refine(Z3b a b h0 h1 g0 g1 _).mono ?_;rintro e w'⟨rfl,rfl⟩)
 rw[Z4u a b h0 h1 g0 g1]
 go_ret
 exact⟨rfl,((Nb.refl _).alloc _).alloc _⟩
theorem Z0I(a b:Int)(sa sb:Bool)(h0:0≤a)(h1:a<18446744073709551616)(g0:0≤b)(g1:b<18446744073709551616)(w:World):
  Calls prog 150 #[.int .u64 a,.int .u64 b,.bool sa,.bool sb] w fun e w'=>e=.returned (.int .u64 (Hgh a b sa sb))∧Nb w w':=by
 have H:Hid (Hgh a b sa sb=Less (sb && Y5 b) (Less (sa && Y5 a) (Hu a b) b) a):=Lib.hid rfl
 cases sa<;>cases sb<;>cases na:Y5 a<;>cases nb:Y5 b<;>rw[na,nb] at H
 all_goals
  go_enter func150,ntmps150
  go_wp2_with fail
  refine(Z4y a b h0 h1 g0 g1 _).mono ?_
  rintro e w1⟨rfl,hg⟩
  go_wp2_with (go_at_call 154;refine(XL _ (by omega) (by omega) _).mono ?_;rintro e w'⟨rfl,rfl⟩)
  go_ret
  exact⟨Zm H.out.symm,hg⟩
theorem Km(a b n:Int)(w:World):Calls prog 125 #[Z1 a b n] w fun e w'=>e=.returned (.int .u64 (IntKind.u64.wrap (a+b)))∧Nb w w':=by
 unfold Z1
 go_enter func125,ntmps125
 go_wp2
 go_ret
 exact⟨rfl,(Nb.refl _).alloc _⟩
theorem Z1o(a b n:Int)(w:World):Calls prog 126 #[Z1 a b n] w fun e w'=>e=.returned (.int .u64 (IntKind.u64.wrap (a-b)))∧Nb w w':=by
 unfold Z1
 go_enter func126,ntmps126
 go_wp2
 go_ret
 exact⟨rfl,(Nb.refl _).alloc _⟩
theorem Z2L(a b n:Int)(w:World):Calls prog 137 #[Z1 a b n] w fun e w'=>e=.returned (.int .u64 (IntKind.u64.wrap (a*b)))∧Nb w w':=by
 unfold Z1
 go_enter func137,ntmps137
 go_wp2
 go_ret
 exact⟨rfl,(Nb.refl _).alloc _⟩
theorem Js(a b n:Int)(w:World):Calls prog 134 #[Z1 a b n] w fun e w'=>e=.returned (.int .u64 (bits .xor .u64 a b))∧Nb w w':=by
 unfold Z1
 go_enter func134,ntmps134
 go_wp2
 go_ret
 exact⟨rfl,(Nb.refl _).alloc _⟩
theorem Z0J(a b n:Int)(w:World):Calls prog 135 #[Z1 a b n] w fun e w'=>e=.returned (.int .u64 (bits .or .u64 a b))∧Nb w w':=by
 unfold Z1
 go_enter func135,ntmps135
 go_wp2
 go_ret
 exact⟨rfl,(Nb.refl _).alloc _⟩
theorem Jt(a b n:Int)(w:World):Calls prog 136 #[Z1 a b n] w fun e w'=>e=.returned (.int .u64 (bits .and .u64 a b))∧Nb w w':=by
 unfold Z1
 go_enter func136,ntmps136
 go_wp2
 go_ret
 exact⟨rfl,(Nb.refl _).alloc _⟩
theorem K3(a b n:Int)(w:World):Calls prog 90 #[Z1 a b n] w fun e w'=>e=.returned (.bool (LtS a b))∧Nb w w':=by
 unfold Z1
 go_enter func90,ntmps90
 go_wp2
 go_ret
 exact⟨rfl,(Nb.refl _).alloc _⟩
theorem J4(a b n:Int)(w:World):Calls prog 91 #[Z1 a b n] w fun e w'=>e=.returned (.bool (LtU a b))∧Nb w w':=by
 unfold Z1
 go_enter func91,ntmps91
 go_wp2
 go_ret
 exact⟨rfl,(Nb.refl _).alloc _⟩
theorem Z1p(b:Bool)(w:World):Calls prog 149 #[.bool b] w fun e w'=>e=.returned (.int .u64 (if b=true then 1 else 0))∧w=w':=by
 cases b
 all_goals
  go_enter func149,ntmps149
  go_wp2
  go_ret
  exact⟨rfl,rfl⟩
theorem Z1q(a b n:Int)(w:World):Calls prog 132 #[Z1 a b n] w fun e w'=>e=.returned (.int .u64 (if LtS a b=true then 1 else 0))∧Nb w w':=by
 have HL:=fun w=>K3 a b n w
 unfold Z1 at HL ⊢
 cases h:LtS a b<;>rw[h] at HL<;>have H:=Lib.hid HL<;>clear HL h
 all_goals
  go_enter func132,ntmps132
  go_wp2_with fail
  refine(H.out _).mono ?_
  rintro e w1⟨rfl,hn⟩
  go_wp2_with fail
  refine(Z1p _ _).mono ?_
  rintro e w'⟨rfl,rfl⟩
  go_wp2_with fail
  go_ret
  exact⟨rfl,((Nb.refl _).alloc _).trans hn⟩
theorem Z0K(a b n:Int)(w:World):Calls prog 133 #[Z1 a b n] w fun e w'=>e=.returned (.int .u64 (if LtU a b=true then 1 else 0))∧Nb w w':=by
 have HL:=fun w=>J4 a b n w
 unfold Z1 at HL ⊢
 cases h:LtU a b<;>rw[h] at HL<;>have H:=Lib.hid HL<;>clear HL h
 all_goals
  go_enter func133,ntmps133
  go_wp2_with fail
  refine(H.out _).mono ?_
  rintro e w1⟨rfl,hn⟩
  go_wp2_with fail
  refine(Z1p _ _).mono ?_
  rintro e w'⟨rfl,rfl⟩
  go_wp2_with fail
  go_ret
  exact⟨rfl,((Nb.refl _).alloc _).trans hn⟩
theorem Z3d(a b n:Int)(h0:0≤a)(h1:a<18446744073709551616)(g0:0≤b)(g1:b<18446744073709551616)(w:World):Calls prog 138 #[Z1 a b n] w fun e w'=>e=.returned (.int .u64 (Hgh a b true true))∧Nb w w':=by
 unfold Z1
 go_enter func138,ntmps138
 go_wp2_with fail
 refine(Z0I a b _ _ h0 h1 g0 g1 _).mono ?_
 rintro e w1⟨rfl,hn⟩
 go_wp2_with fail
 go_ret
 exact⟨rfl,((Nb.refl _).alloc _).trans hn⟩
theorem Z3e(a b n:Int)(h0:0≤a)(h1:a<18446744073709551616)(g0:0≤b)(g1:b<18446744073709551616)(w:World):Calls prog 139 #[Z1 a b n] w fun e w'=>e=.returned (.int .u64 (Hgh a b true false))∧Nb w w':=by
 unfold Z1
 go_enter func139,ntmps139
 go_wp2_with fail
 refine(Z0I a b _ _ h0 h1 g0 g1 _).mono ?_
 rintro e w1⟨rfl,hn⟩
 go_wp2_with fail
 go_ret
 exact⟨rfl,((Nb.refl _).alloc _).trans hn⟩
theorem Z3f(a b n:Int)(h0:0≤a)(h1:a<18446744073709551616)(g0:0≤b)(g1:b<18446744073709551616)(w:World):Calls prog 140 #[Z1 a b n] w fun e w'=>e=.returned (.int .u64 (Hgh a b false false))∧Nb w w':=by
 unfold Z1
 go_enter func140,ntmps140
 go_wp2_with fail
 refine(Z0I a b _ _ h0 h1 g0 g1 _).mono ?_
 rintro e w1⟨rfl,hn⟩
 go_wp2_with fail
 go_ret
 exact⟨rfl,((Nb.refl _).alloc _).trans hn⟩
theorem Z1r(a b n:Int)(h0:0≤a)(h1:a<18446744073709551616)(g0:0≤b)(g1:b<18446744073709551616)(w:World):Calls prog 141 #[Z1 a b n] w fun e w'=>e=.returned (.int .u64 (_root_.Go.Proofs.YtgpdpaljbiclkaaGreatDoor.Quo a b true))∧Nb w w':=by
 unfold Z1
 go_enter func141,ntmps141
 go_wp2_with fail
 refine(Z0F a b _ h0 h1 g0 g1 _).mono ?_
 rintro e w'⟨rfl,rfl⟩
 go_wp2_with fail
 go_ret
 exact⟨rfl,(Nb.refl _).alloc _⟩
theorem Z1s(a b n:Int)(h0:0≤a)(h1:a<18446744073709551616)(g0:0≤b)(g1:b<18446744073709551616)(w:World):Calls prog 142 #[Z1 a b n] w fun e w'=>e=.returned (.int .u64 (_root_.Go.Proofs.YtgpdpaljbiclkaaGreatDoor.Quo a b false))∧Nb w w':=by
 unfold Z1
 go_enter func142,ntmps142
 go_wp2_with fail
 refine(Z0F a b _ h0 h1 g0 g1 _).mono ?_
 rintro e w'⟨rfl,rfl⟩
 go_wp2_with fail
 go_ret
 exact⟨rfl,(Nb.refl _).alloc _⟩
theorem Z1t(a b n:Int)(h0:0≤a)(h1:a<18446744073709551616)(g0:0≤b)(g1:b<18446744073709551616)(w:World):Calls prog 143 #[Z1 a b n] w fun e w'=>e=.returned (.int .u64 (_root_.Go.Proofs.YtgpdpaljbiclkaaGreatDoor.Rem a b true))∧Nb w w':=by
 unfold Z1
 go_enter func143,ntmps143
 go_wp2_with fail
 refine(Z2K a b _ h0 h1 g0 g1 _).mono ?_
 rintro e w'⟨rfl,rfl⟩
 go_wp2_with fail
 go_ret
 exact⟨rfl,(Nb.refl _).alloc _⟩
theorem Z1u(a b n:Int)(h0:0≤a)(h1:a<18446744073709551616)(g0:0≤b)(g1:b<18446744073709551616)(w:World):Calls prog 144 #[Z1 a b n] w fun e w'=>e=.returned (.int .u64 (_root_.Go.Proofs.YtgpdpaljbiclkaaGreatDoor.Rem a b false))∧Nb w w':=by
 unfold Z1
 go_enter func144,ntmps144
 go_wp2_with fail
 refine(Z2K a b _ h0 h1 g0 g1 _).mono ?_
 rintro e w'⟨rfl,rfl⟩
 go_wp2_with fail
 go_ret
 exact⟨rfl,(Nb.refl _).alloc _⟩
theorem Z3g(a b n:Int)(w:World):Calls prog 145 #[Z1 a b n] w fun e w'=>e=.returned (.int .u64 (if LtS a b=true then a else b))∧Nb w w':=by
 have HL:=fun w=>K3 a b n w
 unfold Z1 at HL ⊢
 cases h:LtS a b<;>rw[h] at HL<;>have H:=Lib.hid HL<;>clear HL h
 all_goals
  go_enter func145,ntmps145
  go_wp2_with fail
  obtain⟨W1,hW⟩:∃W1,w.alloc (.cells #[.int .u64 a,.int .u64 b,.int .i64 n] 127)=W1:=⟨_,rfl⟩
  have hb:=Z0 w _ hW rfl
  have h2:Nb w W1:=by rw[←hW];exact(Nb.refl _).alloc _
  rw[hW]
  clear hW
  refine(H.out _).mono ?_
  rintro e w1⟨rfl,hn⟩
  have hb':=Nb.block hn hb
  have c0:=cell_of_row _ _ 0 _ _ _ hb'
  have c1:=cell_of_row _ _ 1 _ _ _ hb'
  clear hb hb'
  go_wp2
  go_ret
  exact⟨rfl,h2.trans hn⟩
theorem Z0L(a b n:Int)(w:World):Calls prog 146 #[Z1 a b n] w fun e w'=>e=.returned (.int .u64 (if LtS a b=true then b else a))∧Nb w w':=by
 have HL:=fun w=>K3 a b n w
 unfold Z1 at HL ⊢
 cases h:LtS a b<;>rw[h] at HL<;>have H:=Lib.hid HL<;>clear HL h
 all_goals
  go_enter func146,ntmps146
  go_wp2_with fail
  obtain⟨W1,hW⟩:∃W1,w.alloc (.cells #[.int .u64 a,.int .u64 b,.int .i64 n] 127)=W1:=⟨_,rfl⟩
  have hb:=Z0 w _ hW rfl
  have h2:Nb w W1:=by rw[←hW];exact(Nb.refl _).alloc _
  rw[hW]
  clear hW
  refine(H.out _).mono ?_
  rintro e w1⟨rfl,hn⟩
  have hb':=Nb.block hn hb
  have c0:=cell_of_row _ _ 0 _ _ _ hb'
  have c1:=cell_of_row _ _ 1 _ _ _ hb'
  clear hb hb'
  go_wp2
  go_ret
  exact⟨rfl,h2.trans hn⟩
theorem Z29(a b n:Int)(w:World):Calls prog 147 #[Z1 a b n] w fun e w'=>e=.returned (.int .u64 (min a b))∧Nb w w':=by
 unfold Z1
 go_enter func147,ntmps147
 go_wp2
 go_ret
 exact⟨rfl,(Nb.refl _).alloc _⟩
theorem Z1v(a b n:Int)(w:World):Calls prog 148 #[Z1 a b n] w fun e w'=>e=.returned (.int .u64 (max a b))∧Nb w w':=by
 unfold Z1
 go_enter func148,ntmps148
 go_wp2
 go_ret
 exact⟨rfl,(Nb.refl _).alloc _⟩
end Go.Proofs.YtgpdpaljbiclkaaGreatDoor
end
section
namespace Go.Proofs.YtgpdpaljbiclkaaGreatDoor
open _root_.Go.Proofs.Tryz
open Go.RowKit
set_option linter.unusedVariables false
theorem Zh{w:World}{n:Nat}{t:TypeId}{v0 v1 v2:Value}(h:w.heap[n]? =some (.cells #[v0,v1,v2] t (0,0))):
  n<w.heap.size∧w.cell? ⟨n,0,.none⟩=some v0∧w.cell? ⟨n,1,.none⟩=some v1∧w.cell? ⟨n,2,.none⟩=some v2:=
 ⟨lt_of_block h,cell_of_row _ _ 0 _ _ _ h,cell_of_row _ _ 1 _ _ _ h,cell_of_row _ _ 2 _ _ _ h⟩
theorem kp3{w wc w':World}{B:Nat}{v0 v1 v2:Value}(hn:Nb wc w')(h:Nb w wc∧B<wc.heap.size∧wc.cell? ⟨B,0,.none⟩=some v0∧wc.cell? ⟨B,1,.none⟩=some v1∧wc.cell? ⟨B,2,.none⟩=some v2):
  Nb w w'∧B<w'.heap.size∧w'.cell? ⟨B,0,.none⟩=some v0∧w'.cell? ⟨B,1,.none⟩=some v1∧w'.cell? ⟨B,2,.none⟩=some v2:=
 ⟨h.1.trans hn,Nat.lt_of_lt_of_le h.2.1 hn.size,hn.cell h.2.2.1,hn.cell h.2.2.2.1,hn.cell h.2.2.2.2⟩
theorem sign_q(x n:Int)(h0:0≤x)(h1:x<18446744073709551616)(w:World):
  Calls prog 88 #[.int .u64 x,.int .i64 n] w fun e w'=>e=.returned (.int .u64 (Sgn x n))∧w'=w:=(Zr x n h0 h1 w).mono fun _ _ ⟨h,k⟩=>⟨h,k.symm⟩
theorem Yr(a b n:Int)(h0:0≤a)(h1:a<18446744073709551616)(g0:0≤b)(g1:b<18446744073709551616)(w:World):
  Calls prog 124 #[Z1 a b n] w fun e w'=>e=.returned (Z1 (Sgn a 32) (Sgn b 32) 32)∧Nb w w':=by
 unfold Z1
 go_enter func124,ntmps124
 go_wp2_with fail
 obtain⟨W1,hW⟩:∃W1,w.alloc (.cells #[.int .u64 a,.int .u64 b,.int .i64 n] 127)=W1:=⟨_,rfl⟩
 have hb:=Z0 w _ hW rfl
 have h2:Nb w W1:=by rw[←hW];exact(Nb.refl _).alloc _
 have hz:w.heap.size+1=W1.heap.size:=by rw[←hW];simp
 rw[hW,hz]
 clear hW
 obtain⟨hL,c0,c1⟩:w.heap.size<W1.heap.size∧W1.cell? ⟨w.heap.size,0,.none⟩=some (.int .u64 a)∧W1.cell? ⟨w.heap.size,1,.none⟩=some (.int .u64 b):=⟨lt_of_block hb,cell_of_row _ _ 0 _ _ _ hb,cell_of_row _ _ 1 _ _ _ hb⟩
 clear hz hb
 refine wp_region_still_tail 7 (by kernel_rfl) (by kernel_rfl) ?_
 simp only[List.take_succ_cons,List.take_zero,List.drop_succ_cons,List.drop_zero]
 change wpStill _ _ (W1.alloc (.cells #[.int .u64 0,.int .u64 0,.int .i64 0] 127)).drew (fun a'=>wpList _ _ _ _ a' (W1.alloc (.cells #[.int .u64 0,.int .u64 0,.int .i64 0] 127)).drew) _ _
 repeat (first|still_step|still_call (sign_q _ _ (by assumption) (by assumption) _))
 refine wpStill_nil ?_
 go_wp2
 exact bodyPost_ret (v:=Z1 (Sgn a 32) (Sgn b 32) 32) (by simp[results,results124,go_sem,Z1]) rfl ⟨rfl,h2.trans (((Nb.refl _).alloc _).drew)⟩
theorem Z4z(x low n:Int)(h0:0≤x)(h1:x<18446744073709551616)(w:World):
  Calls prog 82 #[.int .u64 x,.int .i64 low,.int .i64 n] w fun e w'=>e=.returned (.int .u64 (Fld x low n))∧w'=w:=(ZE x low n h0 h1 w).mono fun _ _ ⟨h,k⟩=>⟨h,k.symm⟩
theorem YY(a b n:Int)(h0:0≤a)(h1:a<18446744073709551616)(g0:0≤b)(g1:b<18446744073709551616)(w:World):
  Calls prog 127 #[Z1 a b n] w fun e w'=>e=.returned (Z1 (Fld a 0 32) (Fld b 0 32) 32)∧Nb w w':=by
 unfold Z1
 go_enter func127,ntmps127
 go_wp2_with fail
 obtain⟨W1,hW⟩:∃W1,w.alloc (.cells #[.int .u64 a,.int .u64 b,.int .i64 n] 127)=W1:=⟨_,rfl⟩
 have hb:=Z0 w _ hW rfl
 have h2:Nb w W1:=by rw[←hW];exact(Nb.refl _).alloc _
 have hz:w.heap.size+1=W1.heap.size:=by rw[←hW];simp
 rw[hW,hz]
 clear hW
 obtain⟨hL,c0,c1⟩:w.heap.size<W1.heap.size∧W1.cell? ⟨w.heap.size,0,.none⟩=some (.int .u64 a)∧W1.cell? ⟨w.heap.size,1,.none⟩=some (.int .u64 b):=⟨lt_of_block hb,cell_of_row _ _ 0 _ _ _ hb,cell_of_row _ _ 1 _ _ _ hb⟩
 clear hz hb
 refine wp_region_still_tail 7 (by kernel_rfl) (by kernel_rfl) ?_
 simp only[List.take_succ_cons,List.take_zero,List.drop_succ_cons,List.drop_zero]
 change wpStill _ _ (W1.alloc (.cells #[.int .u64 0,.int .u64 0,.int .i64 0] 127)).drew (fun a'=>wpList _ _ _ _ a' (W1.alloc (.cells #[.int .u64 0,.int .u64 0,.int .i64 0] 127)).drew) _ _
 repeat (first|still_step|still_call (Z4z _ _ _ (by assumption) (by assumption) _))
 refine wpStill_nil ?_
 go_wp2
 exact bodyPost_ret (v:=Z1 (Fld a 0 32) (Fld b 0 32) 32) (by simp[results,results127,go_sem,Z1]) rfl ⟨rfl,h2.trans (((Nb.refl _).alloc _).drew)⟩
theorem Z4A(a b:Int)(g0:0≤b)(w:World):Calls prog 129 #[.agg #[.int .u64 a,.int .u64 b,.int .i64 64]] w fun e w'=>e=.returned (.int .u64 (b % 64))∧Nb w w':=by
 go_enter func129,ntmps129
 go_wp2
 go_ret
 exact⟨rfl,(Nb.refl _).alloc _⟩
theorem Z4B(a b:Int)(g0:0≤b)(w:World):Calls prog 129 #[.agg #[.int .u64 a,.int .u64 b,.int .i64 32]] w fun e w'=>e=.returned (.int .u64 (b % 32))∧Nb w w':=by
 go_enter func129,ntmps129
 go_wp2
 go_ret
 exact⟨rfl,(Nb.refl _).alloc _⟩
theorem shl64(a b:Int)(B:Nat)(h0:0≤a)(h1:a<18446744073709551616)(g0:0≤b)(g1:b<18446744073709551616)(w:World)(hb:w.heap[B]? =some (.cells #[.int .u64 a,.int .u64 b,.int .i64 64] 127 (0,0))):
  Calls prog 128 #[.pointer (some ⟨B,0,none⟩)] w fun e w'=>e=.returned (.int .u64 (IntKind.u64.wrap (a*2 ^ (b % 64).toNat)))∧Nb w w':=by
 obtain⟨n1,c0,c1,c2⟩:=Zh hb
 clear hb
 have m0:0≤b % 64:=by omega
 have m1:b % 64<64:=by omega
 go_enter func128,ntmps128
 go_wp2_with fail
 go_region_held3 (fun w'=>Nb w w'∧B<w'.heap.size∧w'.cell? ⟨B,0,none⟩=some (.int .u64 a)∧w'.cell? ⟨B,1,none⟩=some (.int .u64 b)∧w'.cell? ⟨B,2,none⟩=some (.int .i64 64))
  (first|assumption|(exact kp3 (by assumption) (by assumption))|(exact⟨(Nb.refl _).drewN 1,n1,c0,c1,c2⟩))
  ((go_at_call 129;refine(Z4A a b g0 _).mono ?_;rintro e w1⟨rfl,hn1⟩))
 rename_i hH
 have hN:=hH.1
 clear hH n1 c0 c1 c2
 go_wp2_with fail
 go_ret
 exact⟨rfl,hN⟩
theorem shl32(a b:Int)(B:Nat)(h0:0≤a)(h1:a<18446744073709551616)(g0:0≤b)(g1:b<18446744073709551616)(w:World)(hb:w.heap[B]? =some (.cells #[.int .u64 a,.int .u64 b,.int .i64 32] 127 (0,0))):
  Calls prog 128 #[.pointer (some ⟨B,0,none⟩)] w fun e w'=>e=.returned (.int .u64 (IntKind.u64.wrap (a*2 ^ (b % 32).toNat)))∧Nb w w':=by
 obtain⟨n1,c0,c1,c2⟩:=Zh hb
 clear hb
 have m0:0≤b % 32:=by omega
 have m1:b % 32<32:=by omega
 go_enter func128,ntmps128
 go_wp2_with fail
 go_region_held3 (fun w'=>Nb w w'∧B<w'.heap.size∧w'.cell? ⟨B,0,none⟩=some (.int .u64 a)∧w'.cell? ⟨B,1,none⟩=some (.int .u64 b)∧w'.cell? ⟨B,2,none⟩=some (.int .i64 32))
  (first|assumption|(exact kp3 (by assumption) (by assumption))|(exact⟨(Nb.refl _).drewN 1,n1,c0,c1,c2⟩))
  ((go_at_call 129;refine(Z4B a b g0 _).mono ?_;rintro e w1⟨rfl,hn1⟩))
 rename_i hH
 have hN:=hH.1
 clear hH n1 c0 c1 c2
 go_wp2_with fail
 go_ret
 exact⟨rfl,hN⟩
theorem shr64(a b:Int)(B:Nat)(h0:0≤a)(h1:a<18446744073709551616)(g0:0≤b)(g1:b<18446744073709551616)(w:World)(hb:w.heap[B]? =some (.cells #[.int .u64 a,.int .u64 b,.int .i64 64] 127 (0,0))):
  Calls prog 130 #[.pointer (some ⟨B,0,none⟩)] w fun e w'=>e=.returned (.int .u64 (a / 2 ^ (b % 64).toNat))∧Nb w w':=by
 obtain⟨n1,c0,c1,c2⟩:=Zh hb
 clear hb
 have m0:0≤b % 64:=by omega
 have m1:b % 64<64:=by omega
 go_enter func130,ntmps130
 go_wp2_with fail
 go_region_held3 (fun w'=>Nb w w'∧B<w'.heap.size∧w'.cell? ⟨B,0,none⟩=some (.int .u64 a)∧w'.cell? ⟨B,1,none⟩=some (.int .u64 b)∧w'.cell? ⟨B,2,none⟩=some (.int .i64 64))
  (first|assumption|(exact kp3 (by assumption) (by assumption))|(exact⟨(Nb.refl _).drewN 1,n1,c0,c1,c2⟩))
  ((go_at_call 129;refine(Z4A a b g0 _).mono ?_;rintro e w1⟨rfl,hn1⟩))
 rename_i hH
 have hN:=hH.1
 clear hH n1 c0 c1 c2
 go_wp2_with fail
 go_ret
 exact⟨rfl,hN⟩
theorem shr32(a b:Int)(B:Nat)(h0:0≤a)(h1:a<18446744073709551616)(g0:0≤b)(g1:b<18446744073709551616)(w:World)(hb:w.heap[B]? =some (.cells #[.int .u64 a,.int .u64 b,.int .i64 32] 127 (0,0))):
  Calls prog 130 #[.pointer (some ⟨B,0,none⟩)] w fun e w'=>e=.returned (.int .u64 (a / 2 ^ (b % 32).toNat))∧Nb w w':=by
 obtain⟨n1,c0,c1,c2⟩:=Zh hb
 clear hb
 have m0:0≤b % 32:=by omega
 have m1:b % 32<32:=by omega
 go_enter func130,ntmps130
 go_wp2_with fail
 go_region_held3 (fun w'=>Nb w w'∧B<w'.heap.size∧w'.cell? ⟨B,0,none⟩=some (.int .u64 a)∧w'.cell? ⟨B,1,none⟩=some (.int .u64 b)∧w'.cell? ⟨B,2,none⟩=some (.int .i64 32))
  (first|assumption|(exact kp3 (by assumption) (by assumption))|(exact⟨(Nb.refl _).drewN 1,n1,c0,c1,c2⟩))
  ((go_at_call 129;refine(Z4B a b g0 _).mono ?_;rintro e w1⟨rfl,hn1⟩))
 rename_i hH
 have hN:=hH.1
 clear hH n1 c0 c1 c2
 go_wp2_with fail
 go_ret
 exact⟨rfl,hN⟩
theorem sar64(a b:Int)(B:Nat)(h0:0≤a)(h1:a<18446744073709551616)(g0:0≤b)(g1:b<18446744073709551616)(w:World)(hb:w.heap[B]? =some (.cells #[.int .u64 a,.int .u64 b,.int .i64 64] 127 (0,0))):
  Calls prog 131 #[.pointer (some ⟨B,0,none⟩)] w fun e w'=>e=.returned (.int .u64 (IntKind.u64.wrap (IntKind.i64.wrap a / 2 ^ (b % 64).toNat)))∧Nb w w':=by
 obtain⟨n1,c0,c1,c2⟩:=Zh hb
 clear hb
 have m0:0≤b % 64:=by omega
 have m1:b % 64<64:=by omega
 go_enter func131,ntmps131
 go_wp2_with fail
 go_region_held3 (fun w'=>Nb w w'∧B<w'.heap.size∧w'.cell? ⟨B,0,none⟩=some (.int .u64 a)∧w'.cell? ⟨B,1,none⟩=some (.int .u64 b)∧w'.cell? ⟨B,2,none⟩=some (.int .i64 64))
  (first|assumption|(exact kp3 (by assumption) (by assumption))|(exact⟨(Nb.refl _).drewN 1,n1,c0,c1,c2⟩))
  ((go_at_call 129;refine(Z4A a b g0 _).mono ?_;rintro e w1⟨rfl,hn1⟩))
 rename_i hH
 have hN:=hH.1
 clear hH n1 c0 c1 c2
 go_wp2_with fail
 go_ret
 exact⟨rfl,hN⟩
theorem sar32(a b:Int)(B:Nat)(h0:0≤a)(h1:a<18446744073709551616)(g0:0≤b)(g1:b<18446744073709551616)(w:World)(hb:w.heap[B]? =some (.cells #[.int .u64 a,.int .u64 b,.int .i64 32] 127 (0,0))):
  Calls prog 131 #[.pointer (some ⟨B,0,none⟩)] w fun e w'=>e=.returned (.int .u64 (IntKind.u64.wrap (IntKind.i64.wrap a / 2 ^ (b % 32).toNat)))∧Nb w w':=by
 obtain⟨n1,c0,c1,c2⟩:=Zh hb
 clear hb
 have m0:0≤b % 32:=by omega
 have m1:b % 32<32:=by omega
 go_enter func131,ntmps131
 go_wp2_with fail
 go_region_held3 (fun w'=>Nb w w'∧B<w'.heap.size∧w'.cell? ⟨B,0,none⟩=some (.int .u64 a)∧w'.cell? ⟨B,1,none⟩=some (.int .u64 b)∧w'.cell? ⟨B,2,none⟩=some (.int .i64 32))
  (first|assumption|(exact kp3 (by assumption) (by assumption))|(exact⟨(Nb.refl _).drewN 1,n1,c0,c1,c2⟩))
  ((go_at_call 129;refine(Z4B a b g0 _).mono ?_;rintro e w1⟨rfl,hn1⟩))
 rename_i hH
 have hN:=hH.1
 clear hH n1 c0 c1 c2
 go_wp2_with fail
 go_ret
 exact⟨rfl,hN⟩
end Go.Proofs.YtgpdpaljbiclkaaGreatDoor
end

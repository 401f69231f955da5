/-
  Proved here: which function the code's table of operations hands out. Conditions: the numbers are words.
-/
import Derived.Test.YtgpdpaljbiclkaaGreatDoorSzz
import Derived.Test.YtgpdpaljbiclkaaGreatDoorSaq
set_option maxHeartbeats 1000000
set_option maxRecDepth 100000
namespace Go.Proofs.YtgpdpaljbiclkaaGreatDoor
open _root_.Go.Proofs.Tryz
open Go.RowKit
set_option linter.unusedVariables false
theorem Z6Q(a b:Int)(h0:0≤a)(h1:a<18446744073709551616)(g0:0≤b)(g1:b<18446744073709551616)(w:World):Calls prog 119 #[.int .i64 61,Z1 a b 64] w fun e w'=>e=.returned (.tuple #[.func (Fn.func 137) #[Z1 (Sgn a 32) (Sgn b 32) 32] #[],.int .i64 32])∧Nb w w':=by
 have hs:=Lib.hid (Yr a b 64 h0 h1 g0 g1)
 clear h0 h1 g0 g1
 unfold Z1 at hs ⊢
 have hmf:=@mF prog
 go_enter func119,ntmps119
 repeat (first|(with_reducible first|refine tE ?_|refine iS ?_|refine iO ?_)|go_values|go_skip|go_guarded|go_step|go_upon|go_back)
 obtain⟨W1,hW⟩:∃W1,w.alloc (.cells #[.int .u64 a,.int .u64 b,.int .i64 64] 127)=W1:=⟨_,rfl⟩
 have hb:=Z0 w _ hW rfl
 have h2:Nb w W1:=by rw[←hW];exact(Nb.refl _).alloc _
 rw[hW]
 clear hW
 refine(hs.out _).mono ?_
 rintro e w1⟨rfl,hn⟩
 have hb1:=Nb.block hn hb
 obtain⟨n1,c0,c1,c2⟩:=Zh hb1
 obtain⟨f0,f1,f2⟩:=YA hb1
 clear hb hs
 go_wp2_with fail
 obtain⟨W3,hW⟩:∃W3,((w1.setCell ⟨w.heap.size,0,none⟩ (.int .u64 (Sgn a 32))).setCell ⟨w.heap.size,1,none⟩ (.int .u64 (Sgn b 32))).setCell ⟨w.heap.size,2,none⟩ (.int .i64 32)=W3:=⟨_,rfl⟩
 have hb3:W3.heap[w.heap.size]? =some (.cells #[.int .u64 (Sgn a 32),.int .u64 (Sgn b 32),.int .i64 32] 127 (0,0)):=by rw[←hW];exact XV hb1
 have h4:Nb w W3:=by rw[←hW];exact(((h2.trans hn).setCell (Nat.le_refl _) _).setCell (Nat.le_refl _) _).setCell (Nat.le_refl _) _
 rw[hW]
 clear hW c0 c1 c2 f0 f1 f2 n1 hb1 hn h2
 obtain⟨n1,c0,c1,c2⟩:=Zh hb3
 clear hb3
 repeat (first|(with_reducible first|refine tE ?_|refine iS ?_|refine iO ?_)|go_values|go_skip|go_guarded|go_step|go_upon|go_back)
 go_quiet (fail)
 repeat (first|(with_reducible first|refine tE ?_|refine iS ?_|refine iO ?_)|go_values|go_skip|go_guarded|go_step|go_upon|go_back)
 go_ret2
 exact⟨rfl,h4.drewN _⟩
theorem Z6R(a b:Int)(h0:0≤a)(h1:a<18446744073709551616)(g0:0≤b)(g1:b<18446744073709551616)(w:World):Calls prog 119 #[.int .i64 53,Z1 a b 64] w fun e w'=>e=.returned (.tuple #[.func (Fn.func 137) #[Z1 a b 64] #[],.int .i64 64])∧Nb w w':=by
 clear h0 h1 g0 g1
 unfold Z1
 have hmf:=@mF prog
 go_enter func119,ntmps119
 repeat (first|(with_reducible first|refine tE ?_|refine iS ?_|refine iO ?_)|go_values|go_skip|go_guarded|go_step|go_upon|go_back)
 obtain⟨W1,hW⟩:∃W1,w.alloc (.cells #[.int .u64 a,.int .u64 b,.int .i64 64] 127)=W1:=⟨_,rfl⟩
 have hb:=Z0 w _ hW rfl
 have h2:Nb w W1:=by rw[←hW];exact(Nb.refl _).alloc _
 rw[hW]
 clear hW
 obtain⟨n1,c0,c1,c2⟩:=Zh hb
 clear hb
 repeat (first|(with_reducible first|refine tE ?_|refine iS ?_|refine iO ?_)|go_values|go_skip|go_guarded|go_step|go_upon|go_back)
 go_quiet (fail)
 repeat (first|(with_reducible first|refine tE ?_|refine iS ?_|refine iO ?_)|go_values|go_skip|go_guarded|go_step|go_upon|go_back)
 go_ret2
 exact⟨rfl,h2.drewN _⟩
theorem Z6S(a b:Int)(h0:0≤a)(h1:a<18446744073709551616)(g0:0≤b)(g1:b<18446744073709551616)(w:World):Calls prog 119 #[.int .i64 54,Z1 a b 64] w fun e w'=>e=.returned (.tuple #[.func (Fn.func 138) #[Z1 a b 64] #[],.int .i64 64])∧Nb w w':=by
 clear h0 h1 g0 g1
 unfold Z1
 have hmf:=@mF prog
 go_enter func119,ntmps119
 repeat (first|(with_reducible first|refine tE ?_|refine iS ?_|refine iO ?_)|go_values|go_skip|go_guarded|go_step|go_upon|go_back)
 obtain⟨W1,hW⟩:∃W1,w.alloc (.cells #[.int .u64 a,.int .u64 b,.int .i64 64] 127)=W1:=⟨_,rfl⟩
 have hb:=Z0 w _ hW rfl
 have h2:Nb w W1:=by rw[←hW];exact(Nb.refl _).alloc _
 rw[hW]
 clear hW
 obtain⟨n1,c0,c1,c2⟩:=Zh hb
 clear hb
 repeat (first|(with_reducible first|refine tE ?_|refine iS ?_|refine iO ?_)|go_values|go_skip|go_guarded|go_step|go_upon|go_back)
 go_quiet (fail)
 repeat (first|(with_reducible first|refine tE ?_|refine iS ?_|refine iO ?_)|go_values|go_skip|go_guarded|go_step|go_upon|go_back)
 go_ret2
 exact⟨rfl,h2.drewN _⟩
theorem Z6T(a b:Int)(h0:0≤a)(h1:a<18446744073709551616)(g0:0≤b)(g1:b<18446744073709551616)(w:World):Calls prog 119 #[.int .i64 55,Z1 a b 64] w fun e w'=>e=.returned (.tuple #[.func (Fn.func 139) #[Z1 a b 64] #[],.int .i64 64])∧Nb w w':=by
 clear h0 h1 g0 g1
 unfold Z1
 have hmf:=@mF prog
 go_enter func119,ntmps119
 repeat (first|(with_reducible first|refine tE ?_|refine iS ?_|refine iO ?_)|go_values|go_skip|go_guarded|go_step|go_upon|go_back)
 obtain⟨W1,hW⟩:∃W1,w.alloc (.cells #[.int .u64 a,.int .u64 b,.int .i64 64] 127)=W1:=⟨_,rfl⟩
 have hb:=Z0 w _ hW rfl
 have h2:Nb w W1:=by rw[←hW];exact(Nb.refl _).alloc _
 rw[hW]
 clear hW
 obtain⟨n1,c0,c1,c2⟩:=Zh hb
 clear hb
 repeat (first|(with_reducible first|refine tE ?_|refine iS ?_|refine iO ?_)|go_values|go_skip|go_guarded|go_step|go_upon|go_back)
 go_quiet (fail)
 repeat (first|(with_reducible first|refine tE ?_|refine iS ?_|refine iO ?_)|go_values|go_skip|go_guarded|go_step|go_upon|go_back)
 go_ret2
 exact⟨rfl,h2.drewN _⟩
theorem Z6U(a b:Int)(h0:0≤a)(h1:a<18446744073709551616)(g0:0≤b)(g1:b<18446744073709551616)(w:World):Calls prog 119 #[.int .i64 56,Z1 a b 64] w fun e w'=>e=.returned (.tuple #[.func (Fn.func 140) #[Z1 a b 64] #[],.int .i64 64])∧Nb w w':=by
 clear h0 h1 g0 g1
 unfold Z1
 have hmf:=@mF prog
 go_enter func119,ntmps119
 repeat (first|(with_reducible first|refine tE ?_|refine iS ?_|refine iO ?_)|go_values|go_skip|go_guarded|go_step|go_upon|go_back)
 obtain⟨W1,hW⟩:∃W1,w.alloc (.cells #[.int .u64 a,.int .u64 b,.int .i64 64] 127)=W1:=⟨_,rfl⟩
 have hb:=Z0 w _ hW rfl
 have h2:Nb w W1:=by rw[←hW];exact(Nb.refl _).alloc _
 rw[hW]
 clear hW
 obtain⟨n1,c0,c1,c2⟩:=Zh hb
 clear hb
 repeat (first|(with_reducible first|refine tE ?_|refine iS ?_|refine iO ?_)|go_values|go_skip|go_guarded|go_step|go_upon|go_back)
 go_quiet (fail)
 repeat (first|(with_reducible first|refine tE ?_|refine iS ?_|refine iO ?_)|go_values|go_skip|go_guarded|go_step|go_upon|go_back)
 go_ret2
 exact⟨rfl,h2.drewN _⟩
theorem Z6V(a b:Int)(h0:0≤a)(h1:a<18446744073709551616)(g0:0≤b)(g1:b<18446744073709551616)(w:World):Calls prog 119 #[.int .i64 62,Z1 a b 64] w fun e w'=>e=.returned (.tuple #[.func (Fn.func 141) #[Z1 (Sgn a 32) (Sgn b 32) 32] #[],.int .i64 32])∧Nb w w':=by
 have hs:=Lib.hid (Yr a b 64 h0 h1 g0 g1)
 clear h0 h1 g0 g1
 unfold Z1 at hs ⊢
 have hmf:=@mF prog
 go_enter func119,ntmps119
 repeat (first|(with_reducible first|refine tE ?_|refine iS ?_|refine iO ?_)|go_values|go_skip|go_guarded|go_step|go_upon|go_back)
 obtain⟨W1,hW⟩:∃W1,w.alloc (.cells #[.int .u64 a,.int .u64 b,.int .i64 64] 127)=W1:=⟨_,rfl⟩
 have hb:=Z0 w _ hW rfl
 have h2:Nb w W1:=by rw[←hW];exact(Nb.refl _).alloc _
 rw[hW]
 clear hW
 refine(hs.out _).mono ?_
 rintro e w1⟨rfl,hn⟩
 have hb1:=Nb.block hn hb
 obtain⟨n1,c0,c1,c2⟩:=Zh hb1
 obtain⟨f0,f1,f2⟩:=YA hb1
 clear hb hs
 go_wp2_with fail
 obtain⟨W3,hW⟩:∃W3,((w1.setCell ⟨w.heap.size,0,none⟩ (.int .u64 (Sgn a 32))).setCell ⟨w.heap.size,1,none⟩ (.int .u64 (Sgn b 32))).setCell ⟨w.heap.size,2,none⟩ (.int .i64 32)=W3:=⟨_,rfl⟩
 have hb3:W3.heap[w.heap.size]? =some (.cells #[.int .u64 (Sgn a 32),.int .u64 (Sgn b 32),.int .i64 32] 127 (0,0)):=by rw[←hW];exact XV hb1
 have h4:Nb w W3:=by rw[←hW];exact(((h2.trans hn).setCell (Nat.le_refl _) _).setCell (Nat.le_refl _) _).setCell (Nat.le_refl _) _
 rw[hW]
 clear hW c0 c1 c2 f0 f1 f2 n1 hb1 hn h2
 obtain⟨n1,c0,c1,c2⟩:=Zh hb3
 clear hb3
 repeat (first|(with_reducible first|refine tE ?_|refine iS ?_|refine iO ?_)|go_values|go_skip|go_guarded|go_step|go_upon|go_back)
 go_quiet (fail)
 repeat (first|(with_reducible first|refine tE ?_|refine iS ?_|refine iO ?_)|go_values|go_skip|go_guarded|go_step|go_upon|go_back)
 go_ret2
 exact⟨rfl,h4.drewN _⟩
theorem Z6W(a b:Int)(h0:0≤a)(h1:a<18446744073709551616)(g0:0≤b)(g1:b<18446744073709551616)(w:World):Calls prog 119 #[.int .i64 57,Z1 a b 64] w fun e w'=>e=.returned (.tuple #[.func (Fn.func 141) #[Z1 a b 64] #[],.int .i64 64])∧Nb w w':=by
 clear h0 h1 g0 g1
 unfold Z1
 have hmf:=@mF prog
 go_enter func119,ntmps119
 repeat (first|(with_reducible first|refine tE ?_|refine iS ?_|refine iO ?_)|go_values|go_skip|go_guarded|go_step|go_upon|go_back)
 obtain⟨W1,hW⟩:∃W1,w.alloc (.cells #[.int .u64 a,.int .u64 b,.int .i64 64] 127)=W1:=⟨_,rfl⟩
 have hb:=Z0 w _ hW rfl
 have h2:Nb w W1:=by rw[←hW];exact(Nb.refl _).alloc _
 rw[hW]
 clear hW
 obtain⟨n1,c0,c1,c2⟩:=Zh hb
 clear hb
 repeat (first|(with_reducible first|refine tE ?_|refine iS ?_|refine iO ?_)|go_values|go_skip|go_guarded|go_step|go_upon|go_back)
 go_quiet (fail)
 repeat (first|(with_reducible first|refine tE ?_|refine iS ?_|refine iO ?_)|go_values|go_skip|go_guarded|go_step|go_upon|go_back)
 go_ret2
 exact⟨rfl,h2.drewN _⟩
theorem Z6X(a b:Int)(h0:0≤a)(h1:a<18446744073709551616)(g0:0≤b)(g1:b<18446744073709551616)(w:World):Calls prog 119 #[.int .i64 63,Z1 a b 64] w fun e w'=>e=.returned (.tuple #[.func (Fn.func 142) #[Z1 (Fld a 0 32) (Fld b 0 32) 32] #[],.int .i64 32])∧Nb w w':=by
 have hs:=Lib.hid (YY a b 64 h0 h1 g0 g1)
 clear h0 h1 g0 g1
 unfold Z1 at hs ⊢
 have hmf:=@mF prog
 go_enter func119,ntmps119
 repeat (first|(with_reducible first|refine tE ?_|refine iS ?_|refine iO ?_)|go_values|go_skip|go_guarded|go_step|go_upon|go_back)
 obtain⟨W1,hW⟩:∃W1,w.alloc (.cells #[.int .u64 a,.int .u64 b,.int .i64 64] 127)=W1:=⟨_,rfl⟩
 have hb:=Z0 w _ hW rfl
 have h2:Nb w W1:=by rw[←hW];exact(Nb.refl _).alloc _
 rw[hW]
 clear hW
 refine(hs.out _).mono ?_
 rintro e w1⟨rfl,hn⟩
 have hb1:=Nb.block hn hb
 obtain⟨n1,c0,c1,c2⟩:=Zh hb1
 obtain⟨f0,f1,f2⟩:=YA hb1
 clear hb hs
 go_wp2_with fail
 obtain⟨W3,hW⟩:∃W3,((w1.setCell ⟨w.heap.size,0,none⟩ (.int .u64 (Fld a 0 32))).setCell ⟨w.heap.size,1,none⟩ (.int .u64 (Fld b 0 32))).setCell ⟨w.heap.size,2,none⟩ (.int .i64 32)=W3:=⟨_,rfl⟩
 have hb3:W3.heap[w.heap.size]? =some (.cells #[.int .u64 (Fld a 0 32),.int .u64 (Fld b 0 32),.int .i64 32] 127 (0,0)):=by rw[←hW];exact XV hb1
 have h4:Nb w W3:=by rw[←hW];exact(((h2.trans hn).setCell (Nat.le_refl _) _).setCell (Nat.le_refl _) _).setCell (Nat.le_refl _) _
 rw[hW]
 clear hW c0 c1 c2 f0 f1 f2 n1 hb1 hn h2
 obtain⟨n1,c0,c1,c2⟩:=Zh hb3
 clear hb3
 repeat (first|(with_reducible first|refine tE ?_|refine iS ?_|refine iO ?_)|go_values|go_skip|go_guarded|go_step|go_upon|go_back)
 go_quiet (fail)
 repeat (first|(with_reducible first|refine tE ?_|refine iS ?_|refine iO ?_)|go_values|go_skip|go_guarded|go_step|go_upon|go_back)
 go_ret2
 exact⟨rfl,h4.drewN _⟩
theorem Z6Y(a b:Int)(h0:0≤a)(h1:a<18446744073709551616)(g0:0≤b)(g1:b<18446744073709551616)(w:World):Calls prog 119 #[.int .i64 58,Z1 a b 64] w fun e w'=>e=.returned (.tuple #[.func (Fn.func 142) #[Z1 a b 64] #[],.int .i64 64])∧Nb w w':=by
 clear h0 h1 g0 g1
 unfold Z1
 have hmf:=@mF prog
 go_enter func119,ntmps119
 repeat (first|(with_reducible first|refine tE ?_|refine iS ?_|refine iO ?_)|go_values|go_skip|go_guarded|go_step|go_upon|go_back)
 obtain⟨W1,hW⟩:∃W1,w.alloc (.cells #[.int .u64 a,.int .u64 b,.int .i64 64] 127)=W1:=⟨_,rfl⟩
 have hb:=Z0 w _ hW rfl
 have h2:Nb w W1:=by rw[←hW];exact(Nb.refl _).alloc _
 rw[hW]
 clear hW
 obtain⟨n1,c0,c1,c2⟩:=Zh hb
 clear hb
 repeat (first|(with_reducible first|refine tE ?_|refine iS ?_|refine iO ?_)|go_values|go_skip|go_guarded|go_step|go_upon|go_back)
 go_quiet (fail)
 repeat (first|(with_reducible first|refine tE ?_|refine iS ?_|refine iO ?_)|go_values|go_skip|go_guarded|go_step|go_upon|go_back)
 go_ret2
 exact⟨rfl,h2.drewN _⟩
theorem Z6Z(a b:Int)(h0:0≤a)(h1:a<18446744073709551616)(g0:0≤b)(g1:b<18446744073709551616)(w:World):Calls prog 119 #[.int .i64 64,Z1 a b 64] w fun e w'=>e=.returned (.tuple #[.func (Fn.func 143) #[Z1 (Sgn a 32) (Sgn b 32) 32] #[],.int .i64 32])∧Nb w w':=by
 have hs:=Lib.hid (Yr a b 64 h0 h1 g0 g1)
 clear h0 h1 g0 g1
 unfold Z1 at hs ⊢
 have hmf:=@mF prog
 go_enter func119,ntmps119
 repeat (first|(with_reducible first|refine tE ?_|refine iS ?_|refine iO ?_)|go_values|go_skip|go_guarded|go_step|go_upon|go_back)
 obtain⟨W1,hW⟩:∃W1,w.alloc (.cells #[.int .u64 a,.int .u64 b,.int .i64 64] 127)=W1:=⟨_,rfl⟩
 have hb:=Z0 w _ hW rfl
 have h2:Nb w W1:=by rw[←hW];exact(Nb.refl _).alloc _
 rw[hW]
 clear hW
 refine(hs.out _).mono ?_
 rintro e w1⟨rfl,hn⟩
 have hb1:=Nb.block hn hb
 obtain⟨n1,c0,c1,c2⟩:=Zh hb1
 obtain⟨f0,f1,f2⟩:=YA hb1
 clear hb hs
 go_wp2_with fail
 obtain⟨W3,hW⟩:∃W3,((w1.setCell ⟨w.heap.size,0,none⟩ (.int .u64 (Sgn a 32))).setCell ⟨w.heap.size,1,none⟩ (.int .u64 (Sgn b 32))).setCell ⟨w.heap.size,2,none⟩ (.int .i64 32)=W3:=⟨_,rfl⟩
 have hb3:W3.heap[w.heap.size]? =some (.cells #[.int .u64 (Sgn a 32),.int .u64 (Sgn b 32),.int .i64 32] 127 (0,0)):=by rw[←hW];exact XV hb1
 have h4:Nb w W3:=by rw[←hW];exact(((h2.trans hn).setCell (Nat.le_refl _) _).setCell (Nat.le_refl _) _).setCell (Nat.le_refl _) _
 rw[hW]
 clear hW c0 c1 c2 f0 f1 f2 n1 hb1 hn h2
 obtain⟨n1,c0,c1,c2⟩:=Zh hb3
 clear hb3
 repeat (first|(with_reducible first|refine tE ?_|refine iS ?_|refine iO ?_)|go_values|go_skip|go_guarded|go_step|go_upon|go_back)
 go_quiet (fail)
 repeat (first|(with_reducible first|refine tE ?_|refine iS ?_|refine iO ?_)|go_values|go_skip|go_guarded|go_step|go_upon|go_back)
 go_ret2
 exact⟨rfl,h4.drewN _⟩
theorem Z70(a b:Int)(h0:0≤a)(h1:a<18446744073709551616)(g0:0≤b)(g1:b<18446744073709551616)(w:World):Calls prog 119 #[.int .i64 59,Z1 a b 64] w fun e w'=>e=.returned (.tuple #[.func (Fn.func 143) #[Z1 a b 64] #[],.int .i64 64])∧Nb w w':=by
 clear h0 h1 g0 g1
 unfold Z1
 have hmf:=@mF prog
 go_enter func119,ntmps119
 repeat (first|(with_reducible first|refine tE ?_|refine iS ?_|refine iO ?_)|go_values|go_skip|go_guarded|go_step|go_upon|go_back)
 obtain⟨W1,hW⟩:∃W1,w.alloc (.cells #[.int .u64 a,.int .u64 b,.int .i64 64] 127)=W1:=⟨_,rfl⟩
 have hb:=Z0 w _ hW rfl
 have h2:Nb w W1:=by rw[←hW];exact(Nb.refl _).alloc _
 rw[hW]
 clear hW
 obtain⟨n1,c0,c1,c2⟩:=Zh hb
 clear hb
 repeat (first|(with_reducible first|refine tE ?_|refine iS ?_|refine iO ?_)|go_values|go_skip|go_guarded|go_step|go_upon|go_back)
 go_quiet (fail)
 repeat (first|(with_reducible first|refine tE ?_|refine iS ?_|refine iO ?_)|go_values|go_skip|go_guarded|go_step|go_upon|go_back)
 go_ret2
 exact⟨rfl,h2.drewN _⟩
theorem Z71(a b:Int)(h0:0≤a)(h1:a<18446744073709551616)(g0:0≤b)(g1:b<18446744073709551616)(w:World):Calls prog 119 #[.int .i64 65,Z1 a b 64] w fun e w'=>e=.returned (.tuple #[.func (Fn.func 144) #[Z1 (Fld a 0 32) (Fld b 0 32) 32] #[],.int .i64 32])∧Nb w w':=by
 have hs:=Lib.hid (YY a b 64 h0 h1 g0 g1)
 clear h0 h1 g0 g1
 unfold Z1 at hs ⊢
 have hmf:=@mF prog
 go_enter func119,ntmps119
 repeat (first|(with_reducible first|refine tE ?_|refine iS ?_|refine iO ?_)|go_values|go_skip|go_guarded|go_step|go_upon|go_back)
 obtain⟨W1,hW⟩:∃W1,w.alloc (.cells #[.int .u64 a,.int .u64 b,.int .i64 64] 127)=W1:=⟨_,rfl⟩
 have hb:=Z0 w _ hW rfl
 have h2:Nb w W1:=by rw[←hW];exact(Nb.refl _).alloc _
 rw[hW]
 clear hW
 refine(hs.out _).mono ?_
 rintro e w1⟨rfl,hn⟩
 have hb1:=Nb.block hn hb
 obtain⟨n1,c0,c1,c2⟩:=Zh hb1
 obtain⟨f0,f1,f2⟩:=YA hb1
 clear hb hs
 go_wp2_with fail
 obtain⟨W3,hW⟩:∃W3,((w1.setCell ⟨w.heap.size,0,none⟩ (.int .u64 (Fld a 0 32))).setCell ⟨w.heap.size,1,none⟩ (.int .u64 (Fld b 0 32))).setCell ⟨w.heap.size,2,none⟩ (.int .i64 32)=W3:=⟨_,rfl⟩
 have hb3:W3.heap[w.heap.size]? =some (.cells #[.int .u64 (Fld a 0 32),.int .u64 (Fld b 0 32),.int .i64 32] 127 (0,0)):=by rw[←hW];exact XV hb1
 have h4:Nb w W3:=by rw[←hW];exact(((h2.trans hn).setCell (Nat.le_refl _) _).setCell (Nat.le_refl _) _).setCell (Nat.le_refl _) _
 rw[hW]
 clear hW c0 c1 c2 f0 f1 f2 n1 hb1 hn h2
 obtain⟨n1,c0,c1,c2⟩:=Zh hb3
 clear hb3
 repeat (first|(with_reducible first|refine tE ?_|refine iS ?_|refine iO ?_)|go_values|go_skip|go_guarded|go_step|go_upon|go_back)
 go_quiet (fail)
 repeat (first|(with_reducible first|refine tE ?_|refine iS ?_|refine iO ?_)|go_values|go_skip|go_guarded|go_step|go_upon|go_back)
 go_ret2
 exact⟨rfl,h4.drewN _⟩
theorem Z72(a b:Int)(h0:0≤a)(h1:a<18446744073709551616)(g0:0≤b)(g1:b<18446744073709551616)(w:World):Calls prog 119 #[.int .i64 60,Z1 a b 64] w fun e w'=>e=.returned (.tuple #[.func (Fn.func 144) #[Z1 a b 64] #[],.int .i64 64])∧Nb w w':=by
 clear h0 h1 g0 g1
 unfold Z1
 have hmf:=@mF prog
 go_enter func119,ntmps119
 repeat (first|(with_reducible first|refine tE ?_|refine iS ?_|refine iO ?_)|go_values|go_skip|go_guarded|go_step|go_upon|go_back)
 obtain⟨W1,hW⟩:∃W1,w.alloc (.cells #[.int .u64 a,.int .u64 b,.int .i64 64] 127)=W1:=⟨_,rfl⟩
 have hb:=Z0 w _ hW rfl
 have h2:Nb w W1:=by rw[←hW];exact(Nb.refl _).alloc _
 rw[hW]
 clear hW
 obtain⟨n1,c0,c1,c2⟩:=Zh hb
 clear hb
 repeat (first|(with_reducible first|refine tE ?_|refine iS ?_|refine iO ?_)|go_values|go_skip|go_guarded|go_step|go_upon|go_back)
 go_quiet (fail)
 repeat (first|(with_reducible first|refine tE ?_|refine iS ?_|refine iO ?_)|go_values|go_skip|go_guarded|go_step|go_upon|go_back)
 go_ret2
 exact⟨rfl,h2.drewN _⟩
theorem chg_69(a b:Int)(h0:0≤a)(h1:a<18446744073709551616)(g0:0≤b)(g1:b<18446744073709551616)(w:World):Calls prog 120 #[.int .i64 69,Z1 a b 64] w fun e w'=>e=.returned (.func (Fn.func 125) #[Z1 a b 64] #[])∧Nb w w':=by
 clear h0 h1 g0 g1
 unfold Z1
 have hmf:=@mF prog
 go_enter func120,ntmps120
 repeat (first|(with_reducible first|refine tE ?_|refine iS ?_|refine iO ?_)|go_values|go_skip|go_guarded|go_step|go_upon|go_back)
 obtain⟨W1,hW⟩:∃W1,w.alloc (.cells #[.int .u64 a,.int .u64 b,.int .i64 64] 127)=W1:=⟨_,rfl⟩
 have hb:=Z0 w _ hW rfl
 have h2:Nb w W1:=by rw[←hW];exact(Nb.refl _).alloc _
 rw[hW]
 clear hW
 obtain⟨n1,c0,c1,c2⟩:=Zh hb
 clear hb
 repeat (first|(with_reducible first|refine tE ?_|refine iS ?_|refine iO ?_)|go_values|go_skip|go_guarded|go_step|go_upon|go_back)
 go_ret
 exact⟨rfl,h2⟩
theorem chg_70(a b:Int)(h0:0≤a)(h1:a<18446744073709551616)(g0:0≤b)(g1:b<18446744073709551616)(w:World):Calls prog 120 #[.int .i64 70,Z1 a b 64] w fun e w'=>e=.returned (.func (Fn.func 134) #[Z1 a b 64] #[])∧Nb w w':=by
 clear h0 h1 g0 g1
 unfold Z1
 have hmf:=@mF prog
 go_enter func120,ntmps120
 repeat (first|(with_reducible first|refine tE ?_|refine iS ?_|refine iO ?_)|go_values|go_skip|go_guarded|go_step|go_upon|go_back)
 obtain⟨W1,hW⟩:∃W1,w.alloc (.cells #[.int .u64 a,.int .u64 b,.int .i64 64] 127)=W1:=⟨_,rfl⟩
 have hb:=Z0 w _ hW rfl
 have h2:Nb w W1:=by rw[←hW];exact(Nb.refl _).alloc _
 rw[hW]
 clear hW
 obtain⟨n1,c0,c1,c2⟩:=Zh hb
 clear hb
 repeat (first|(with_reducible first|refine tE ?_|refine iS ?_|refine iO ?_)|go_values|go_skip|go_guarded|go_step|go_upon|go_back)
 go_ret
 exact⟨rfl,h2⟩
theorem chg_71(a b:Int)(h0:0≤a)(h1:a<18446744073709551616)(g0:0≤b)(g1:b<18446744073709551616)(w:World):Calls prog 120 #[.int .i64 71,Z1 a b 64] w fun e w'=>e=.returned (.func (Fn.func 136) #[Z1 a b 64] #[])∧Nb w w':=by
 clear h0 h1 g0 g1
 unfold Z1
 have hmf:=@mF prog
 go_enter func120,ntmps120
 repeat (first|(with_reducible first|refine tE ?_|refine iS ?_|refine iO ?_)|go_values|go_skip|go_guarded|go_step|go_upon|go_back)
 obtain⟨W1,hW⟩:∃W1,w.alloc (.cells #[.int .u64 a,.int .u64 b,.int .i64 64] 127)=W1:=⟨_,rfl⟩
 have hb:=Z0 w _ hW rfl
 have h2:Nb w W1:=by rw[←hW];exact(Nb.refl _).alloc _
 rw[hW]
 clear hW
 obtain⟨n1,c0,c1,c2⟩:=Zh hb
 clear hb
 repeat (first|(with_reducible first|refine tE ?_|refine iS ?_|refine iO ?_)|go_values|go_skip|go_guarded|go_step|go_upon|go_back)
 go_ret
 exact⟨rfl,h2⟩
theorem chg_72(a b:Int)(h0:0≤a)(h1:a<18446744073709551616)(g0:0≤b)(g1:b<18446744073709551616)(w:World):Calls prog 120 #[.int .i64 72,Z1 a b 64] w fun e w'=>e=.returned (.func (Fn.func 135) #[Z1 a b 64] #[])∧Nb w w':=by
 clear h0 h1 g0 g1
 unfold Z1
 have hmf:=@mF prog
 go_enter func120,ntmps120
 repeat (first|(with_reducible first|refine tE ?_|refine iS ?_|refine iO ?_)|go_values|go_skip|go_guarded|go_step|go_upon|go_back)
 obtain⟨W1,hW⟩:∃W1,w.alloc (.cells #[.int .u64 a,.int .u64 b,.int .i64 64] 127)=W1:=⟨_,rfl⟩
 have hb:=Z0 w _ hW rfl
 have h2:Nb w W1:=by rw[←hW];exact(Nb.refl _).alloc _
 rw[hW]
 clear hW
 obtain⟨n1,c0,c1,c2⟩:=Zh hb
 clear hb
 repeat (first|(with_reducible first|refine tE ?_|refine iS ?_|refine iO ?_)|go_values|go_skip|go_guarded|go_step|go_upon|go_back)
 go_ret
 exact⟨rfl,h2⟩
theorem chg_73(a b:Int)(h0:0≤a)(h1:a<18446744073709551616)(g0:0≤b)(g1:b<18446744073709551616)(w:World):Calls prog 120 #[.int .i64 73,Z1 a b 64] w fun e w'=>e=.returned (.func (Fn.func 145) #[Z1 (Sgn a 32) (Sgn b 32) 32] #[])∧Nb w w':=by
 have hs:=Lib.hid (Yr a b 64 h0 h1 g0 g1)
 clear h0 h1 g0 g1
 unfold Z1 at hs ⊢
 have hmf:=@mF prog
 go_enter func120,ntmps120
 repeat (first|(with_reducible first|refine tE ?_|refine iS ?_|refine iO ?_)|go_values|go_skip|go_guarded|go_step|go_upon|go_back)
 obtain⟨W1,hW⟩:∃W1,w.alloc (.cells #[.int .u64 a,.int .u64 b,.int .i64 64] 127)=W1:=⟨_,rfl⟩
 have hb:=Z0 w _ hW rfl
 have h2:Nb w W1:=by rw[←hW];exact(Nb.refl _).alloc _
 rw[hW]
 clear hW
 refine(hs.out _).mono ?_
 rintro e w1⟨rfl,hn⟩
 have hb1:=Nb.block hn hb
 obtain⟨n1,c0,c1,c2⟩:=Zh hb1
 obtain⟨f0,f1,f2⟩:=YA hb1
 clear hb hs
 go_wp2_with fail
 obtain⟨W3,hW⟩:∃W3,((w1.setCell ⟨w.heap.size,0,none⟩ (.int .u64 (Sgn a 32))).setCell ⟨w.heap.size,1,none⟩ (.int .u64 (Sgn b 32))).setCell ⟨w.heap.size,2,none⟩ (.int .i64 32)=W3:=⟨_,rfl⟩
 have hb3:W3.heap[w.heap.size]? =some (.cells #[.int .u64 (Sgn a 32),.int .u64 (Sgn b 32),.int .i64 32] 127 (0,0)):=by rw[←hW];exact XV hb1
 have h4:Nb w W3:=by rw[←hW];exact(((h2.trans hn).setCell (Nat.le_refl _) _).setCell (Nat.le_refl _) _).setCell (Nat.le_refl _) _
 rw[hW]
 clear hW c0 c1 c2 f0 f1 f2 n1 hb1 hn h2
 obtain⟨n1,c0,c1,c2⟩:=Zh hb3
 clear hb3
 repeat (first|(with_reducible first|refine tE ?_|refine iS ?_|refine iO ?_)|go_values|go_skip|go_guarded|go_step|go_upon|go_back)
 go_ret
 exact⟨rfl,h4⟩
theorem chg_74(a b:Int)(h0:0≤a)(h1:a<18446744073709551616)(g0:0≤b)(g1:b<18446744073709551616)(w:World):Calls prog 120 #[.int .i64 74,Z1 a b 64] w fun e w'=>e=.returned (.func (Fn.func 146) #[Z1 (Sgn a 32) (Sgn b 32) 32] #[])∧Nb w w':=by
 have hs:=Lib.hid (Yr a b 64 h0 h1 g0 g1)
 clear h0 h1 g0 g1
 unfold Z1 at hs ⊢
 have hmf:=@mF prog
 go_enter func120,ntmps120
 repeat (first|(with_reducible first|refine tE ?_|refine iS ?_|refine iO ?_)|go_values|go_skip|go_guarded|go_step|go_upon|go_back)
 obtain⟨W1,hW⟩:∃W1,w.alloc (.cells #[.int .u64 a,.int .u64 b,.int .i64 64] 127)=W1:=⟨_,rfl⟩
 have hb:=Z0 w _ hW rfl
 have h2:Nb w W1:=by rw[←hW];exact(Nb.refl _).alloc _
 rw[hW]
 clear hW
 refine(hs.out _).mono ?_
 rintro e w1⟨rfl,hn⟩
 have hb1:=Nb.block hn hb
 obtain⟨n1,c0,c1,c2⟩:=Zh hb1
 obtain⟨f0,f1,f2⟩:=YA hb1
 clear hb hs
 go_wp2_with fail
 obtain⟨W3,hW⟩:∃W3,((w1.setCell ⟨w.heap.size,0,none⟩ (.int .u64 (Sgn a 32))).setCell ⟨w.heap.size,1,none⟩ (.int .u64 (Sgn b 32))).setCell ⟨w.heap.size,2,none⟩ (.int .i64 32)=W3:=⟨_,rfl⟩
 have hb3:W3.heap[w.heap.size]? =some (.cells #[.int .u64 (Sgn a 32),.int .u64 (Sgn b 32),.int .i64 32] 127 (0,0)):=by rw[←hW];exact XV hb1
 have h4:Nb w W3:=by rw[←hW];exact(((h2.trans hn).setCell (Nat.le_refl _) _).setCell (Nat.le_refl _) _).setCell (Nat.le_refl _) _
 rw[hW]
 clear hW c0 c1 c2 f0 f1 f2 n1 hb1 hn h2
 obtain⟨n1,c0,c1,c2⟩:=Zh hb3
 clear hb3
 repeat (first|(with_reducible first|refine tE ?_|refine iS ?_|refine iO ?_)|go_values|go_skip|go_guarded|go_step|go_upon|go_back)
 go_ret
 exact⟨rfl,h4⟩
theorem chg_75(a b:Int)(h0:0≤a)(h1:a<18446744073709551616)(g0:0≤b)(g1:b<18446744073709551616)(w:World):Calls prog 120 #[.int .i64 75,Z1 a b 64] w fun e w'=>e=.returned (.func (Fn.func 147) #[Z1 (Fld a 0 32) (Fld b 0 32) 32] #[])∧Nb w w':=by
 have hs:=Lib.hid (YY a b 64 h0 h1 g0 g1)
 clear h0 h1 g0 g1
 unfold Z1 at hs ⊢
 have hmf:=@mF prog
 go_enter func120,ntmps120
 repeat (first|(with_reducible first|refine tE ?_|refine iS ?_|refine iO ?_)|go_values|go_skip|go_guarded|go_step|go_upon|go_back)
 obtain⟨W1,hW⟩:∃W1,w.alloc (.cells #[.int .u64 a,.int .u64 b,.int .i64 64] 127)=W1:=⟨_,rfl⟩
 have hb:=Z0 w _ hW rfl
 have h2:Nb w W1:=by rw[←hW];exact(Nb.refl _).alloc _
 rw[hW]
 clear hW
 refine(hs.out _).mono ?_
 rintro e w1⟨rfl,hn⟩
 have hb1:=Nb.block hn hb
 obtain⟨n1,c0,c1,c2⟩:=Zh hb1
 obtain⟨f0,f1,f2⟩:=YA hb1
 clear hb hs
 go_wp2_with fail
 obtain⟨W3,hW⟩:∃W3,((w1.setCell ⟨w.heap.size,0,none⟩ (.int .u64 (Fld a 0 32))).setCell ⟨w.heap.size,1,none⟩ (.int .u64 (Fld b 0 32))).setCell ⟨w.heap.size,2,none⟩ (.int .i64 32)=W3:=⟨_,rfl⟩
 have hb3:W3.heap[w.heap.size]? =some (.cells #[.int .u64 (Fld a 0 32),.int .u64 (Fld b 0 32),.int .i64 32] 127 (0,0)):=by rw[←hW];exact XV hb1
 have h4:Nb w W3:=by rw[←hW];exact(((h2.trans hn).setCell (Nat.le_refl _) _).setCell (Nat.le_refl _) _).setCell (Nat.le_refl _) _
 rw[hW]
 clear hW c0 c1 c2 f0 f1 f2 n1 hb1 hn h2
 obtain⟨n1,c0,c1,c2⟩:=Zh hb3
 clear hb3
 repeat (first|(with_reducible first|refine tE ?_|refine iS ?_|refine iO ?_)|go_values|go_skip|go_guarded|go_step|go_upon|go_back)
 go_ret
 exact⟨rfl,h4⟩
theorem chg_76(a b:Int)(h0:0≤a)(h1:a<18446744073709551616)(g0:0≤b)(g1:b<18446744073709551616)(w:World):Calls prog 120 #[.int .i64 76,Z1 a b 64] w fun e w'=>e=.returned (.func (Fn.func 148) #[Z1 (Fld a 0 32) (Fld b 0 32) 32] #[])∧Nb w w':=by
 have hs:=Lib.hid (YY a b 64 h0 h1 g0 g1)
 clear h0 h1 g0 g1
 unfold Z1 at hs ⊢
 have hmf:=@mF prog
 go_enter func120,ntmps120
 repeat (first|(with_reducible first|refine tE ?_|refine iS ?_|refine iO ?_)|go_values|go_skip|go_guarded|go_step|go_upon|go_back)
 obtain⟨W1,hW⟩:∃W1,w.alloc (.cells #[.int .u64 a,.int .u64 b,.int .i64 64] 127)=W1:=⟨_,rfl⟩
 have hb:=Z0 w _ hW rfl
 have h2:Nb w W1:=by rw[←hW];exact(Nb.refl _).alloc _
 rw[hW]
 clear hW
 refine(hs.out _).mono ?_
 rintro e w1⟨rfl,hn⟩
 have hb1:=Nb.block hn hb
 obtain⟨n1,c0,c1,c2⟩:=Zh hb1
 obtain⟨f0,f1,f2⟩:=YA hb1
 clear hb hs
 go_wp2_with fail
 obtain⟨W3,hW⟩:∃W3,((w1.setCell ⟨w.heap.size,0,none⟩ (.int .u64 (Fld a 0 32))).setCell ⟨w.heap.size,1,none⟩ (.int .u64 (Fld b 0 32))).setCell ⟨w.heap.size,2,none⟩ (.int .i64 32)=W3:=⟨_,rfl⟩
 have hb3:W3.heap[w.heap.size]? =some (.cells #[.int .u64 (Fld a 0 32),.int .u64 (Fld b 0 32),.int .i64 32] 127 (0,0)):=by rw[←hW];exact XV hb1
 have h4:Nb w W3:=by rw[←hW];exact(((h2.trans hn).setCell (Nat.le_refl _) _).setCell (Nat.le_refl _) _).setCell (Nat.le_refl _) _
 rw[hW]
 clear hW c0 c1 c2 f0 f1 f2 n1 hb1 hn h2
 obtain⟨n1,c0,c1,c2⟩:=Zh hb3
 clear hb3
 repeat (first|(with_reducible first|refine tE ?_|refine iS ?_|refine iO ?_)|go_values|go_skip|go_guarded|go_step|go_upon|go_back)
 go_ret
 exact⟨rfl,h4⟩
theorem chg_80(a b:Int)(h0:0≤a)(h1:a<18446744073709551616)(g0:0≤b)(g1:b<18446744073709551616)(w:World):Calls prog 120 #[.int .i64 80,Z1 a b 64] w fun e w'=>e=.returned (.func (Fn.func 125) #[Z1 a b 64] #[])∧Nb w w':=by
 clear h0 h1 g0 g1
 unfold Z1
 have hmf:=@mF prog
 go_enter func120,ntmps120
 repeat (first|(with_reducible first|refine tE ?_|refine iS ?_|refine iO ?_)|go_values|go_skip|go_guarded|go_step|go_upon|go_back)
 obtain⟨W1,hW⟩:∃W1,w.alloc (.cells #[.int .u64 a,.int .u64 b,.int .i64 64] 127)=W1:=⟨_,rfl⟩
 have hb:=Z0 w _ hW rfl
 have h2:Nb w W1:=by rw[←hW];exact(Nb.refl _).alloc _
 rw[hW]
 clear hW
 obtain⟨n1,c0,c1,c2⟩:=Zh hb
 clear hb
 repeat (first|(with_reducible first|refine tE ?_|refine iS ?_|refine iO ?_)|go_values|go_skip|go_guarded|go_step|go_upon|go_back)
 go_ret
 exact⟨rfl,h2⟩
theorem chg_81(a b:Int)(h0:0≤a)(h1:a<18446744073709551616)(g0:0≤b)(g1:b<18446744073709551616)(w:World):Calls prog 120 #[.int .i64 81,Z1 a b 64] w fun e w'=>e=.returned (.func (Fn.func 134) #[Z1 a b 64] #[])∧Nb w w':=by
 clear h0 h1 g0 g1
 unfold Z1
 have hmf:=@mF prog
 go_enter func120,ntmps120
 repeat (first|(with_reducible first|refine tE ?_|refine iS ?_|refine iO ?_)|go_values|go_skip|go_guarded|go_step|go_upon|go_back)
 obtain⟨W1,hW⟩:∃W1,w.alloc (.cells #[.int .u64 a,.int .u64 b,.int .i64 64] 127)=W1:=⟨_,rfl⟩
 have hb:=Z0 w _ hW rfl
 have h2:Nb w W1:=by rw[←hW];exact(Nb.refl _).alloc _
 rw[hW]
 clear hW
 obtain⟨n1,c0,c1,c2⟩:=Zh hb
 clear hb
 repeat (first|(with_reducible first|refine tE ?_|refine iS ?_|refine iO ?_)|go_values|go_skip|go_guarded|go_step|go_upon|go_back)
 go_ret
 exact⟨rfl,h2⟩
theorem chg_82(a b:Int)(h0:0≤a)(h1:a<18446744073709551616)(g0:0≤b)(g1:b<18446744073709551616)(w:World):Calls prog 120 #[.int .i64 82,Z1 a b 64] w fun e w'=>e=.returned (.func (Fn.func 136) #[Z1 a b 64] #[])∧Nb w w':=by
 clear h0 h1 g0 g1
 unfold Z1
 have hmf:=@mF prog
 go_enter func120,ntmps120
 repeat (first|(with_reducible first|refine tE ?_|refine iS ?_|refine iO ?_)|go_values|go_skip|go_guarded|go_step|go_upon|go_back)
 obtain⟨W1,hW⟩:∃W1,w.alloc (.cells #[.int .u64 a,.int .u64 b,.int .i64 64] 127)=W1:=⟨_,rfl⟩
 have hb:=Z0 w _ hW rfl
 have h2:Nb w W1:=by rw[←hW];exact(Nb.refl _).alloc _
 rw[hW]
 clear hW
 obtain⟨n1,c0,c1,c2⟩:=Zh hb
 clear hb
 repeat (first|(with_reducible first|refine tE ?_|refine iS ?_|refine iO ?_)|go_values|go_skip|go_guarded|go_step|go_upon|go_back)
 go_ret
 exact⟨rfl,h2⟩
theorem chg_83(a b:Int)(h0:0≤a)(h1:a<18446744073709551616)(g0:0≤b)(g1:b<18446744073709551616)(w:World):Calls prog 120 #[.int .i64 83,Z1 a b 64] w fun e w'=>e=.returned (.func (Fn.func 135) #[Z1 a b 64] #[])∧Nb w w':=by
 clear h0 h1 g0 g1
 unfold Z1
 have hmf:=@mF prog
 go_enter func120,ntmps120
 repeat (first|(with_reducible first|refine tE ?_|refine iS ?_|refine iO ?_)|go_values|go_skip|go_guarded|go_step|go_upon|go_back)
 obtain⟨W1,hW⟩:∃W1,w.alloc (.cells #[.int .u64 a,.int .u64 b,.int .i64 64] 127)=W1:=⟨_,rfl⟩
 have hb:=Z0 w _ hW rfl
 have h2:Nb w W1:=by rw[←hW];exact(Nb.refl _).alloc _
 rw[hW]
 clear hW
 obtain⟨n1,c0,c1,c2⟩:=Zh hb
 clear hb
 repeat (first|(with_reducible first|refine tE ?_|refine iS ?_|refine iO ?_)|go_values|go_skip|go_guarded|go_step|go_upon|go_back)
 go_ret
 exact⟨rfl,h2⟩
theorem chg_84(a b:Int)(h0:0≤a)(h1:a<18446744073709551616)(g0:0≤b)(g1:b<18446744073709551616)(w:World):Calls prog 120 #[.int .i64 84,Z1 a b 64] w fun e w'=>e=.returned (.func (Fn.func 145) #[Z1 a b 64] #[])∧Nb w w':=by
 clear h0 h1 g0 g1
 unfold Z1
 have hmf:=@mF prog
 go_enter func120,ntmps120
 repeat (first|(with_reducible first|refine tE ?_|refine iS ?_|refine iO ?_)|go_values|go_skip|go_guarded|go_step|go_upon|go_back)
 obtain⟨W1,hW⟩:∃W1,w.alloc (.cells #[.int .u64 a,.int .u64 b,.int .i64 64] 127)=W1:=⟨_,rfl⟩
 have hb:=Z0 w _ hW rfl
 have h2:Nb w W1:=by rw[←hW];exact(Nb.refl _).alloc _
 rw[hW]
 clear hW
 obtain⟨n1,c0,c1,c2⟩:=Zh hb
 clear hb
 repeat (first|(with_reducible first|refine tE ?_|refine iS ?_|refine iO ?_)|go_values|go_skip|go_guarded|go_step|go_upon|go_back)
 go_ret
 exact⟨rfl,h2⟩
theorem chg_85(a b:Int)(h0:0≤a)(h1:a<18446744073709551616)(g0:0≤b)(g1:b<18446744073709551616)(w:World):Calls prog 120 #[.int .i64 85,Z1 a b 64] w fun e w'=>e=.returned (.func (Fn.func 146) #[Z1 a b 64] #[])∧Nb w w':=by
 clear h0 h1 g0 g1
 unfold Z1
 have hmf:=@mF prog
 go_enter func120,ntmps120
 repeat (first|(with_reducible first|refine tE ?_|refine iS ?_|refine iO ?_)|go_values|go_skip|go_guarded|go_step|go_upon|go_back)
 obtain⟨W1,hW⟩:∃W1,w.alloc (.cells #[.int .u64 a,.int .u64 b,.int .i64 64] 127)=W1:=⟨_,rfl⟩
 have hb:=Z0 w _ hW rfl
 have h2:Nb w W1:=by rw[←hW];exact(Nb.refl _).alloc _
 rw[hW]
 clear hW
 obtain⟨n1,c0,c1,c2⟩:=Zh hb
 clear hb
 repeat (first|(with_reducible first|refine tE ?_|refine iS ?_|refine iO ?_)|go_values|go_skip|go_guarded|go_step|go_upon|go_back)
 go_ret
 exact⟨rfl,h2⟩
theorem chg_86(a b:Int)(h0:0≤a)(h1:a<18446744073709551616)(g0:0≤b)(g1:b<18446744073709551616)(w:World):Calls prog 120 #[.int .i64 86,Z1 a b 64] w fun e w'=>e=.returned (.func (Fn.func 147) #[Z1 a b 64] #[])∧Nb w w':=by
 clear h0 h1 g0 g1
 unfold Z1
 have hmf:=@mF prog
 go_enter func120,ntmps120
 repeat (first|(with_reducible first|refine tE ?_|refine iS ?_|refine iO ?_)|go_values|go_skip|go_guarded|go_step|go_upon|go_back)
 obtain⟨W1,hW⟩:∃W1,w.alloc (.cells #[.int .u64 a,.int .u64 b,.int .i64 64] 127)=W1:=⟨_,rfl⟩
 have hb:=Z0 w _ hW rfl
 have h2:Nb w W1:=by rw[←hW];exact(Nb.refl _).alloc _
 rw[hW]
 clear hW
 obtain⟨n1,c0,c1,c2⟩:=Zh hb
 clear hb
 repeat (first|(with_reducible first|refine tE ?_|refine iS ?_|refine iO ?_)|go_values|go_skip|go_guarded|go_step|go_upon|go_back)
 go_ret
 exact⟨rfl,h2⟩
theorem chg_87(a b:Int)(h0:0≤a)(h1:a<18446744073709551616)(g0:0≤b)(g1:b<18446744073709551616)(w:World):Calls prog 120 #[.int .i64 87,Z1 a b 64] w fun e w'=>e=.returned (.func (Fn.func 148) #[Z1 a b 64] #[])∧Nb w w':=by
 clear h0 h1 g0 g1
 unfold Z1
 have hmf:=@mF prog
 go_enter func120,ntmps120
 repeat (first|(with_reducible first|refine tE ?_|refine iS ?_|refine iO ?_)|go_values|go_skip|go_guarded|go_step|go_upon|go_back)
 obtain⟨W1,hW⟩:∃W1,w.alloc (.cells #[.int .u64 a,.int .u64 b,.int .i64 64] 127)=W1:=⟨_,rfl⟩
 have hb:=Z0 w _ hW rfl
 have h2:Nb w W1:=by rw[←hW];exact(Nb.refl _).alloc _
 rw[hW]
 clear hW
 obtain⟨n1,c0,c1,c2⟩:=Zh hb
 clear hb
 repeat (first|(with_reducible first|refine tE ?_|refine iS ?_|refine iO ?_)|go_values|go_skip|go_guarded|go_step|go_upon|go_back)
 go_ret
 exact⟨rfl,h2⟩
end Go.Proofs.YtgpdpaljbiclkaaGreatDoor

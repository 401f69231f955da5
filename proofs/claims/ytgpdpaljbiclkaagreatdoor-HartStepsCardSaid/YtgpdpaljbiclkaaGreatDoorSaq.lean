/-
  Proved here: which function the code's table of operations hands out. Conditions: the numbers are words.
-/
import Derived.Test.YtgpdpaljbiclkaaGreatDoorSzz
import Derived.Test.YtgpdpaljbiclkaaGreatDoorSap
set_option maxHeartbeats 1000000
set_option maxRecDepth 100000
namespace Go.Proofs.YtgpdpaljbiclkaaGreatDoor
open _root_.Go.Proofs.Tryz
open Go.RowKit
set_option linter.unusedVariables false
theorem YA{w:World}{n:Nat}{t:TypeId}{cs:Array Value}(h:w.heap[n]? =some (.cells cs t (0,0))):
  w.frozen? ⟨n,0,.none⟩=false∧w.frozen? ⟨n,1,.none⟩=false∧w.frozen? ⟨n,2,.none⟩=false:=
 ⟨(Z24 h).1,(Z24 h).2.1,(Z24 h).2.2.1⟩
theorem XV{w:World}{n:Nat}{t:TypeId}{a b c x y z:Value}(h:w.heap[n]? =some (.cells #[a,b,c] t (0,0))):
  (((w.setCell ⟨n,0,none⟩ x).setCell ⟨n,1,none⟩ y).setCell ⟨n,2,none⟩ z).heap[n]? =some (.cells #[x,y,z] t (0,0)):=by
 have h1:=heap_setCell_same w n 0 _ _ x h
 have h2:=heap_setCell_same _ n 1 _ _ y h1
 have h3:=heap_setCell_same _ n 2 _ _ z h2
 simpa using h3
theorem Nb.setCell{a b:World}(h:Nb a b){p:Addr}(hp:a.heap.size≤p.block)(u:Value):Nb a (b.setCell p u):=Below.setCell h hp u
theorem Z6o(a b:Int)(h0:0≤a)(h1:a<18446744073709551616)(g0:0≤b)(g1:b<18446744073709551616)(w:World):Calls prog 118 #[.int .i64 45,Z1 a b 64] w fun e w'=>e=.returned (.tuple #[.func (Fn.func 125) #[Z1 (Sgn a 32) (Sgn b 32) 32] #[],.int .i64 32])∧Nb w w':=by
 have hs:=Lib.hid (Yr a b 64 h0 h1 g0 g1)
 clear h0 h1 g0 g1
 unfold Z1 at hs ⊢
 have hmf:=@mF prog
 go_enter func118,ntmps118
 repeat (first|(with_reducible first|refine tE ?_|refine iS ?_|refine iO ?_)|go_values|go_skip|go_guarded|go_step|go_upon|go_back)
 obtain⟨W1,hW⟩:∃W1,w.alloc (.cells #[.int .u64 a,.int .u64 b,.int .i64 64] 127)=W1:=⟨_,rfl⟩
 have hb:=Z0 w _ hW rfl
 have h2:Nb w W1:=by rw[←hW];exact(Nb.refl _).alloc _
 rw[hW]
 clear hW
 refine(hs.out _).mono ?_
 rintro e w1⟨rfl,hn⟩
 have hb1:=Nb.block hn hb
 obtain⟨n1,c0,c1,c2⟩:=Zh hb1
 obtain⟨f0,f1,f2⟩:=YA hb1
 clear hb hs
 go_wp2_with fail
 obtain⟨W3,hW⟩:∃W3,((w1.setCell ⟨w.heap.size,0,none⟩ (.int .u64 (Sgn a 32))).setCell ⟨w.heap.size,1,none⟩ (.int .u64 (Sgn b 32))).setCell ⟨w.heap.size,2,none⟩ (.int .i64 32)=W3:=⟨_,rfl⟩
 have hb3:W3.heap[w.heap.size]? =some (.cells #[.int .u64 (Sgn a 32),.int .u64 (Sgn b 32),.int .i64 32] 127 (0,0)):=by rw[←hW];exact XV hb1
 have h4:Nb w W3:=by rw[←hW];exact(((h2.trans hn).setCell (Nat.le_refl _) _).setCell (Nat.le_refl _) _).setCell (Nat.le_refl _) _
 rw[hW]
 clear hW c0 c1 c2 f0 f1 f2 n1 hb1 hn h2
 obtain⟨n1,c0,c1,c2⟩:=Zh hb3
 clear hb3
 repeat (first|(with_reducible first|refine tE ?_|refine iS ?_|refine iO ?_)|go_values|go_skip|go_guarded|go_step|go_upon|go_back)
 go_quiet (fail)
 repeat (first|(with_reducible first|refine tE ?_|refine iS ?_|refine iO ?_)|go_values|go_skip|go_guarded|go_step|go_upon|go_back)
 go_ret2
 exact⟨rfl,h4.drewN _⟩
theorem Z6p(a b:Int)(h0:0≤a)(h1:a<18446744073709551616)(g0:0≤b)(g1:b<18446744073709551616)(w:World):Calls prog 118 #[.int .i64 41,Z1 a b 64] w fun e w'=>e=.returned (.tuple #[.func (Fn.func 125) #[Z1 (Sgn a 32) (Sgn b 32) 32] #[],.int .i64 32])∧Nb w w':=by
 have hs:=Lib.hid (Yr a b 64 h0 h1 g0 g1)
 clear h0 h1 g0 g1
 unfold Z1 at hs ⊢
 have hmf:=@mF prog
 go_enter func118,ntmps118
 repeat (first|(with_reducible first|refine tE ?_|refine iS ?_|refine iO ?_)|go_values|go_skip|go_guarded|go_step|go_upon|go_back)
 obtain⟨W1,hW⟩:∃W1,w.alloc (.cells #[.int .u64 a,.int .u64 b,.int .i64 64] 127)=W1:=⟨_,rfl⟩
 have hb:=Z0 w _ hW rfl
 have h2:Nb w W1:=by rw[←hW];exact(Nb.refl _).alloc _
 rw[hW]
 clear hW
 refine(hs.out _).mono ?_
 rintro e w1⟨rfl,hn⟩
 have hb1:=Nb.block hn hb
 obtain⟨n1,c0,c1,c2⟩:=Zh hb1
 obtain⟨f0,f1,f2⟩:=YA hb1
 clear hb hs
 go_wp2_with fail
 obtain⟨W3,hW⟩:∃W3,((w1.setCell ⟨w.heap.size,0,none⟩ (.int .u64 (Sgn a 32))).setCell ⟨w.heap.size,1,none⟩ (.int .u64 (Sgn b 32))).setCell ⟨w.heap.size,2,none⟩ (.int .i64 32)=W3:=⟨_,rfl⟩
 have hb3:W3.heap[w.heap.size]? =some (.cells #[.int .u64 (Sgn a 32),.int .u64 (Sgn b 32),.int .i64 32] 127 (0,0)):=by rw[←hW];exact XV hb1
 have h4:Nb w W3:=by rw[←hW];exact(((h2.trans hn).setCell (Nat.le_refl _) _).setCell (Nat.le_refl _) _).setCell (Nat.le_refl _) _
 rw[hW]
 clear hW c0 c1 c2 f0 f1 f2 n1 hb1 hn h2
 obtain⟨n1,c0,c1,c2⟩:=Zh hb3
 clear hb3
 repeat (first|(with_reducible first|refine tE ?_|refine iS ?_|refine iO ?_)|go_values|go_skip|go_guarded|go_step|go_upon|go_back)
 go_quiet (fail)
 repeat (first|(with_reducible first|refine tE ?_|refine iS ?_|refine iO ?_)|go_values|go_skip|go_guarded|go_step|go_upon|go_back)
 go_ret2
 exact⟨rfl,h4.drewN _⟩
theorem Z6q(a b:Int)(h0:0≤a)(h1:a<18446744073709551616)(g0:0≤b)(g1:b<18446744073709551616)(w:World):Calls prog 118 #[.int .i64 31,Z1 a b 64] w fun e w'=>e=.returned (.tuple #[.func (Fn.func 125) #[Z1 a b 64] #[],.int .i64 64])∧Nb w w':=by
 clear h0 h1 g0 g1
 unfold Z1
 have hmf:=@mF prog
 go_enter func118,ntmps118
 repeat (first|(with_reducible first|refine tE ?_|refine iS ?_|refine iO ?_)|go_values|go_skip|go_guarded|go_step|go_upon|go_back)
 obtain⟨W1,hW⟩:∃W1,w.alloc (.cells #[.int .u64 a,.int .u64 b,.int .i64 64] 127)=W1:=⟨_,rfl⟩
 have hb:=Z0 w _ hW rfl
 have h2:Nb w W1:=by rw[←hW];exact(Nb.refl _).alloc _
 rw[hW]
 clear hW
 obtain⟨n1,c0,c1,c2⟩:=Zh hb
 clear hb
 repeat (first|(with_reducible first|refine tE ?_|refine iS ?_|refine iO ?_)|go_values|go_skip|go_guarded|go_step|go_upon|go_back)
 go_quiet (fail)
 repeat (first|(with_reducible first|refine tE ?_|refine iS ?_|refine iO ?_)|go_values|go_skip|go_guarded|go_step|go_upon|go_back)
 go_ret2
 exact⟨rfl,h2.drewN _⟩
theorem Z6r(a b:Int)(h0:0≤a)(h1:a<18446744073709551616)(g0:0≤b)(g1:b<18446744073709551616)(w:World):Calls prog 118 #[.int .i64 22,Z1 a b 64] w fun e w'=>e=.returned (.tuple #[.func (Fn.func 125) #[Z1 a b 64] #[],.int .i64 64])∧Nb w w':=by
 clear h0 h1 g0 g1
 unfold Z1
 have hmf:=@mF prog
 go_enter func118,ntmps118
 repeat (first|(with_reducible first|refine tE ?_|refine iS ?_|refine iO ?_)|go_values|go_skip|go_guarded|go_step|go_upon|go_back)
 obtain⟨W1,hW⟩:∃W1,w.alloc (.cells #[.int .u64 a,.int .u64 b,.int .i64 64] 127)=W1:=⟨_,rfl⟩
 have hb:=Z0 w _ hW rfl
 have h2:Nb w W1:=by rw[←hW];exact(Nb.refl _).alloc _
 rw[hW]
 clear hW
 obtain⟨n1,c0,c1,c2⟩:=Zh hb
 clear hb
 repeat (first|(with_reducible first|refine tE ?_|refine iS ?_|refine iO ?_)|go_values|go_skip|go_guarded|go_step|go_upon|go_back)
 go_quiet (fail)
 repeat (first|(with_reducible first|refine tE ?_|refine iS ?_|refine iO ?_)|go_values|go_skip|go_guarded|go_step|go_upon|go_back)
 go_ret2
 exact⟨rfl,h2.drewN _⟩
theorem Z6s(a b:Int)(h0:0≤a)(h1:a<18446744073709551616)(g0:0≤b)(g1:b<18446744073709551616)(w:World):Calls prog 118 #[.int .i64 46,Z1 a b 64] w fun e w'=>e=.returned (.tuple #[.func (Fn.func 126) #[Z1 (Sgn a 32) (Sgn b 32) 32] #[],.int .i64 32])∧Nb w w':=by
 have hs:=Lib.hid (Yr a b 64 h0 h1 g0 g1)
 clear h0 h1 g0 g1
 unfold Z1 at hs ⊢
 have hmf:=@mF prog
 go_enter func118,ntmps118
 repeat (first|(with_reducible first|refine tE ?_|refine iS ?_|refine iO ?_)|go_values|go_skip|go_guarded|go_step|go_upon|go_back)
 obtain⟨W1,hW⟩:∃W1,w.alloc (.cells #[.int .u64 a,.int .u64 b,.int .i64 64] 127)=W1:=⟨_,rfl⟩
 have hb:=Z0 w _ hW rfl
 have h2:Nb w W1:=by rw[←hW];exact(Nb.refl _).alloc _
 rw[hW]
 clear hW
 refine(hs.out _).mono ?_
 rintro e w1⟨rfl,hn⟩
 have hb1:=Nb.block hn hb
 obtain⟨n1,c0,c1,c2⟩:=Zh hb1
 obtain⟨f0,f1,f2⟩:=YA hb1
 clear hb hs
 go_wp2_with fail
 obtain⟨W3,hW⟩:∃W3,((w1.setCell ⟨w.heap.size,0,none⟩ (.int .u64 (Sgn a 32))).setCell ⟨w.heap.size,1,none⟩ (.int .u64 (Sgn b 32))).setCell ⟨w.heap.size,2,none⟩ (.int .i64 32)=W3:=⟨_,rfl⟩
 have hb3:W3.heap[w.heap.size]? =some (.cells #[.int .u64 (Sgn a 32),.int .u64 (Sgn b 32),.int .i64 32] 127 (0,0)):=by rw[←hW];exact XV hb1
 have h4:Nb w W3:=by rw[←hW];exact(((h2.trans hn).setCell (Nat.le_refl _) _).setCell (Nat.le_refl _) _).setCell (Nat.le_refl _) _
 rw[hW]
 clear hW c0 c1 c2 f0 f1 f2 n1 hb1 hn h2
 obtain⟨n1,c0,c1,c2⟩:=Zh hb3
 clear hb3
 repeat (first|(with_reducible first|refine tE ?_|refine iS ?_|refine iO ?_)|go_values|go_skip|go_guarded|go_step|go_upon|go_back)
 go_quiet (fail)
 repeat (first|(with_reducible first|refine tE ?_|refine iS ?_|refine iO ?_)|go_values|go_skip|go_guarded|go_step|go_upon|go_back)
 go_ret2
 exact⟨rfl,h4.drewN _⟩
theorem Z6t(a b:Int)(h0:0≤a)(h1:a<18446744073709551616)(g0:0≤b)(g1:b<18446744073709551616)(w:World):Calls prog 118 #[.int .i64 32,Z1 a b 64] w fun e w'=>e=.returned (.tuple #[.func (Fn.func 126) #[Z1 a b 64] #[],.int .i64 64])∧Nb w w':=by
 clear h0 h1 g0 g1
 unfold Z1
 have hmf:=@mF prog
 go_enter func118,ntmps118
 repeat (first|(with_reducible first|refine tE ?_|refine iS ?_|refine iO ?_)|go_values|go_skip|go_guarded|go_step|go_upon|go_back)
 obtain⟨W1,hW⟩:∃W1,w.alloc (.cells #[.int .u64 a,.int .u64 b,.int .i64 64] 127)=W1:=⟨_,rfl⟩
 have hb:=Z0 w _ hW rfl
 have h2:Nb w W1:=by rw[←hW];exact(Nb.refl _).alloc _
 rw[hW]
 clear hW
 obtain⟨n1,c0,c1,c2⟩:=Zh hb
 clear hb
 repeat (first|(with_reducible first|refine tE ?_|refine iS ?_|refine iO ?_)|go_values|go_skip|go_guarded|go_step|go_upon|go_back)
 go_quiet (fail)
 repeat (first|(with_reducible first|refine tE ?_|refine iS ?_|refine iO ?_)|go_values|go_skip|go_guarded|go_step|go_upon|go_back)
 go_ret2
 exact⟨rfl,h2.drewN _⟩
theorem Z6u(a b:Int)(h0:0≤a)(h1:a<18446744073709551616)(g0:0≤b)(g1:b<18446744073709551616)(w:World):Calls prog 118 #[.int .i64 47,Z1 a b 64] w fun e w'=>e=.returned (.tuple #[.func (Fn.func 128) #[] #[.pointer (some ⟨w.heap.size,0,none⟩)],.int .i64 32])∧Nb w w'∧w'.heap[w.heap.size]? =some (.cells #[.int .u64 (Fld a 0 32),.int .u64 (Fld b 0 32),.int .i64 32] 127 (0,0)):=by
 have hs:=Lib.hid (YY a b 64 h0 h1 g0 g1)
 clear h0 h1 g0 g1
 unfold Z1 at hs ⊢
 have hmf:=@mF prog
 go_enter func118,ntmps118
 repeat (first|(with_reducible first|refine tE ?_|refine iS ?_|refine iO ?_)|go_values|go_skip|go_guarded|go_step|go_upon|go_back)
 obtain⟨W1,hW⟩:∃W1,w.alloc (.cells #[.int .u64 a,.int .u64 b,.int .i64 64] 127)=W1:=⟨_,rfl⟩
 have hb:=Z0 w _ hW rfl
 have h2:Nb w W1:=by rw[←hW];exact(Nb.refl _).alloc _
 rw[hW]
 clear hW
 refine(hs.out _).mono ?_
 rintro e w1⟨rfl,hn⟩
 have hb1:=Nb.block hn hb
 obtain⟨n1,c0,c1,c2⟩:=Zh hb1
 obtain⟨f0,f1,f2⟩:=YA hb1
 clear hb hs
 go_wp2_with fail
 obtain⟨W3,hW⟩:∃W3,((w1.setCell ⟨w.heap.size,0,none⟩ (.int .u64 (Fld a 0 32))).setCell ⟨w.heap.size,1,none⟩ (.int .u64 (Fld b 0 32))).setCell ⟨w.heap.size,2,none⟩ (.int .i64 32)=W3:=⟨_,rfl⟩
 have hb3:W3.heap[w.heap.size]? =some (.cells #[.int .u64 (Fld a 0 32),.int .u64 (Fld b 0 32),.int .i64 32] 127 (0,0)):=by rw[←hW];exact XV hb1
 have h4:Nb w W3:=by rw[←hW];exact(((h2.trans hn).setCell (Nat.le_refl _) _).setCell (Nat.le_refl _) _).setCell (Nat.le_refl _) _
 rw[hW]
 clear hW c0 c1 c2 f0 f1 f2 n1 hb1 hn h2
 obtain⟨n1,c0,c1,c2⟩:=Zh hb3
 have HB:=Lib.hid hb3
 clear hb3
 repeat (first|(with_reducible first|refine tE ?_|refine iS ?_|refine iO ?_)|go_values|go_skip|go_guarded|go_step|go_upon|go_back)
 go_quiet (fail)
 repeat (first|(with_reducible first|refine tE ?_|refine iS ?_|refine iO ?_)|go_values|go_skip|go_guarded|go_step|go_upon|go_back)
 go_ret2
 exact⟨rfl,h4.drewN _,HB.out⟩
theorem Z6v(a b:Int)(h0:0≤a)(h1:a<18446744073709551616)(g0:0≤b)(g1:b<18446744073709551616)(w:World):Calls prog 118 #[.int .i64 42,Z1 a b 64] w fun e w'=>e=.returned (.tuple #[.func (Fn.func 128) #[] #[.pointer (some ⟨w.heap.size,0,none⟩)],.int .i64 32])∧Nb w w'∧w'.heap[w.heap.size]? =some (.cells #[.int .u64 (Fld a 0 32),.int .u64 (Fld b 0 32),.int .i64 32] 127 (0,0)):=by
 have hs:=Lib.hid (YY a b 64 h0 h1 g0 g1)
 clear h0 h1 g0 g1
 unfold Z1 at hs ⊢
 have hmf:=@mF prog
 go_enter func118,ntmps118
 repeat (first|(with_reducible first|refine tE ?_|refine iS ?_|refine iO ?_)|go_values|go_skip|go_guarded|go_step|go_upon|go_back)
 obtain⟨W1,hW⟩:∃W1,w.alloc (.cells #[.int .u64 a,.int .u64 b,.int .i64 64] 127)=W1:=⟨_,rfl⟩
 have hb:=Z0 w _ hW rfl
 have h2:Nb w W1:=by rw[←hW];exact(Nb.refl _).alloc _
 rw[hW]
 clear hW
 refine(hs.out _).mono ?_
 rintro e w1⟨rfl,hn⟩
 have hb1:=Nb.block hn hb
 obtain⟨n1,c0,c1,c2⟩:=Zh hb1
 obtain⟨f0,f1,f2⟩:=YA hb1
 clear hb hs
 go_wp2_with fail
 obtain⟨W3,hW⟩:∃W3,((w1.setCell ⟨w.heap.size,0,none⟩ (.int .u64 (Fld a 0 32))).setCell ⟨w.heap.size,1,none⟩ (.int .u64 (Fld b 0 32))).setCell ⟨w.heap.size,2,none⟩ (.int .i64 32)=W3:=⟨_,rfl⟩
 have hb3:W3.heap[w.heap.size]? =some (.cells #[.int .u64 (Fld a 0 32),.int .u64 (Fld b 0 32),.int .i64 32] 127 (0,0)):=by rw[←hW];exact XV hb1
 have h4:Nb w W3:=by rw[←hW];exact(((h2.trans hn).setCell (Nat.le_refl _) _).setCell (Nat.le_refl _) _).setCell (Nat.le_refl _) _
 rw[hW]
 clear hW c0 c1 c2 f0 f1 f2 n1 hb1 hn h2
 obtain⟨n1,c0,c1,c2⟩:=Zh hb3
 have HB:=Lib.hid hb3
 clear hb3
 repeat (first|(with_reducible first|refine tE ?_|refine iS ?_|refine iO ?_)|go_values|go_skip|go_guarded|go_step|go_upon|go_back)
 go_quiet (fail)
 repeat (first|(with_reducible first|refine tE ?_|refine iS ?_|refine iO ?_)|go_values|go_skip|go_guarded|go_step|go_upon|go_back)
 go_ret2
 exact⟨rfl,h4.drewN _,HB.out⟩
theorem Z6w(a b:Int)(h0:0≤a)(h1:a<18446744073709551616)(g0:0≤b)(g1:b<18446744073709551616)(w:World):Calls prog 118 #[.int .i64 33,Z1 a b 64] w fun e w'=>e=.returned (.tuple #[.func (Fn.func 128) #[] #[.pointer (some ⟨w.heap.size,0,none⟩)],.int .i64 64])∧Nb w w'∧w'.heap[w.heap.size]? =some (.cells #[.int .u64 a,.int .u64 b,.int .i64 64] 127 (0,0)):=by
 clear h0 h1 g0 g1
 unfold Z1
 have hmf:=@mF prog
 go_enter func118,ntmps118
 repeat (first|(with_reducible first|refine tE ?_|refine iS ?_|refine iO ?_)|go_values|go_skip|go_guarded|go_step|go_upon|go_back)
 obtain⟨W1,hW⟩:∃W1,w.alloc (.cells #[.int .u64 a,.int .u64 b,.int .i64 64] 127)=W1:=⟨_,rfl⟩
 have hb:=Z0 w _ hW rfl
 have h2:Nb w W1:=by rw[←hW];exact(Nb.refl _).alloc _
 rw[hW]
 clear hW
 obtain⟨n1,c0,c1,c2⟩:=Zh hb
 have HB:=Lib.hid hb
 clear hb
 repeat (first|(with_reducible first|refine tE ?_|refine iS ?_|refine iO ?_)|go_values|go_skip|go_guarded|go_step|go_upon|go_back)
 go_quiet (fail)
 repeat (first|(with_reducible first|refine tE ?_|refine iS ?_|refine iO ?_)|go_values|go_skip|go_guarded|go_step|go_upon|go_back)
 go_ret2
 exact⟨rfl,h2.drewN _,HB.out⟩
theorem Z6x(a b:Int)(h0:0≤a)(h1:a<18446744073709551616)(g0:0≤b)(g1:b<18446744073709551616)(w:World):Calls prog 118 #[.int .i64 28,Z1 a b 64] w fun e w'=>e=.returned (.tuple #[.func (Fn.func 128) #[] #[.pointer (some ⟨w.heap.size,0,none⟩)],.int .i64 64])∧Nb w w'∧w'.heap[w.heap.size]? =some (.cells #[.int .u64 a,.int .u64 b,.int .i64 64] 127 (0,0)):=by
 clear h0 h1 g0 g1
 unfold Z1
 have hmf:=@mF prog
 go_enter func118,ntmps118
 repeat (first|(with_reducible first|refine tE ?_|refine iS ?_|refine iO ?_)|go_values|go_skip|go_guarded|go_step|go_upon|go_back)
 obtain⟨W1,hW⟩:∃W1,w.alloc (.cells #[.int .u64 a,.int .u64 b,.int .i64 64] 127)=W1:=⟨_,rfl⟩
 have hb:=Z0 w _ hW rfl
 have h2:Nb w W1:=by rw[←hW];exact(Nb.refl _).alloc _
 rw[hW]
 clear hW
 obtain⟨n1,c0,c1,c2⟩:=Zh hb
 have HB:=Lib.hid hb
 clear hb
 repeat (first|(with_reducible first|refine tE ?_|refine iS ?_|refine iO ?_)|go_values|go_skip|go_guarded|go_step|go_upon|go_back)
 go_quiet (fail)
 repeat (first|(with_reducible first|refine tE ?_|refine iS ?_|refine iO ?_)|go_values|go_skip|go_guarded|go_step|go_upon|go_back)
 go_ret2
 exact⟨rfl,h2.drewN _,HB.out⟩
theorem Z6y(a b:Int)(h0:0≤a)(h1:a<18446744073709551616)(g0:0≤b)(g1:b<18446744073709551616)(w:World):Calls prog 118 #[.int .i64 48,Z1 a b 64] w fun e w'=>e=.returned (.tuple #[.func (Fn.func 130) #[] #[.pointer (some ⟨w.heap.size,0,none⟩)],.int .i64 32])∧Nb w w'∧w'.heap[w.heap.size]? =some (.cells #[.int .u64 (Fld a 0 32),.int .u64 (Fld b 0 32),.int .i64 32] 127 (0,0)):=by
 have hs:=Lib.hid (YY a b 64 h0 h1 g0 g1)
 clear h0 h1 g0 g1
 unfold Z1 at hs ⊢
 have hmf:=@mF prog
 go_enter func118,ntmps118
 repeat (first|(with_reducible first|refine tE ?_|refine iS ?_|refine iO ?_)|go_values|go_skip|go_guarded|go_step|go_upon|go_back)
 obtain⟨W1,hW⟩:∃W1,w.alloc (.cells #[.int .u64 a,.int .u64 b,.int .i64 64] 127)=W1:=⟨_,rfl⟩
 have hb:=Z0 w _ hW rfl
 have h2:Nb w W1:=by rw[←hW];exact(Nb.refl _).alloc _
 rw[hW]
 clear hW
 refine(hs.out _).mono ?_
 rintro e w1⟨rfl,hn⟩
 have hb1:=Nb.block hn hb
 obtain⟨n1,c0,c1,c2⟩:=Zh hb1
 obtain⟨f0,f1,f2⟩:=YA hb1
 clear hb hs
 go_wp2_with fail
 obtain⟨W3,hW⟩:∃W3,((w1.setCell ⟨w.heap.size,0,none⟩ (.int .u64 (Fld a 0 32))).setCell ⟨w.heap.size,1,none⟩ (.int .u64 (Fld b 0 32))).setCell ⟨w.heap.size,2,none⟩ (.int .i64 32)=W3:=⟨_,rfl⟩
 have hb3:W3.heap[w.heap.size]? =some (.cells #[.int .u64 (Fld a 0 32),.int .u64 (Fld b 0 32),.int .i64 32] 127 (0,0)):=by rw[←hW];exact XV hb1
 have h4:Nb w W3:=by rw[←hW];exact(((h2.trans hn).setCell (Nat.le_refl _) _).setCell (Nat.le_refl _) _).setCell (Nat.le_refl _) _
 rw[hW]
 clear hW c0 c1 c2 f0 f1 f2 n1 hb1 hn h2
 obtain⟨n1,c0,c1,c2⟩:=Zh hb3
 have HB:=Lib.hid hb3
 clear hb3
 repeat (first|(with_reducible first|refine tE ?_|refine iS ?_|refine iO ?_)|go_values|go_skip|go_guarded|go_step|go_upon|go_back)
 go_quiet (fail)
 repeat (first|(with_reducible first|refine tE ?_|refine iS ?_|refine iO ?_)|go_values|go_skip|go_guarded|go_step|go_upon|go_back)
 go_ret2
 exact⟨rfl,h4.drewN _,HB.out⟩
theorem Z6z(a b:Int)(h0:0≤a)(h1:a<18446744073709551616)(g0:0≤b)(g1:b<18446744073709551616)(w:World):Calls prog 118 #[.int .i64 43,Z1 a b 64] w fun e w'=>e=.returned (.tuple #[.func (Fn.func 130) #[] #[.pointer (some ⟨w.heap.size,0,none⟩)],.int .i64 32])∧Nb w w'∧w'.heap[w.heap.size]? =some (.cells #[.int .u64 (Fld a 0 32),.int .u64 (Fld b 0 32),.int .i64 32] 127 (0,0)):=by
 have hs:=Lib.hid (YY a b 64 h0 h1 g0 g1)
 clear h0 h1 g0 g1
 unfold Z1 at hs ⊢
 have hmf:=@mF prog
 go_enter func118,ntmps118
 repeat (first|(with_reducible first|refine tE ?_|refine iS ?_|refine iO ?_)|go_values|go_skip|go_guarded|go_step|go_upon|go_back)
 obtain⟨W1,hW⟩:∃W1,w.alloc (.cells #[.int .u64 a,.int .u64 b,.int .i64 64] 127)=W1:=⟨_,rfl⟩
 have hb:=Z0 w _ hW rfl
 have h2:Nb w W1:=by rw[←hW];exact(Nb.refl _).alloc _
 rw[hW]
 clear hW
 refine(hs.out _).mono ?_
 rintro e w1⟨rfl,hn⟩
 have hb1:=Nb.block hn hb
 obtain⟨n1,c0,c1,c2⟩:=Zh hb1
 obtain⟨f0,f1,f2⟩:=YA hb1
 clear hb hs
 go_wp2_with fail
 obtain⟨W3,hW⟩:∃W3,((w1.setCell ⟨w.heap.size,0,none⟩ (.int .u64 (Fld a 0 32))).setCell ⟨w.heap.size,1,none⟩ (.int .u64 (Fld b 0 32))).setCell ⟨w.heap.size,2,none⟩ (.int .i64 32)=W3:=⟨_,rfl⟩
 have hb3:W3.heap[w.heap.size]? =some (.cells #[.int .u64 (Fld a 0 32),.int .u64 (Fld b 0 32),.int .i64 32] 127 (0,0)):=by rw[←hW];exact XV hb1
 have h4:Nb w W3:=by rw[←hW];exact(((h2.trans hn).setCell (Nat.le_refl _) _).setCell (Nat.le_refl _) _).setCell (Nat.le_refl _) _
 rw[hW]
 clear hW c0 c1 c2 f0 f1 f2 n1 hb1 hn h2
 obtain⟨n1,c0,c1,c2⟩:=Zh hb3
 have HB:=Lib.hid hb3
 clear hb3
 repeat (first|(with_reducible first|refine tE ?_|refine iS ?_|refine iO ?_)|go_values|go_skip|go_guarded|go_step|go_upon|go_back)
 go_quiet (fail)
 repeat (first|(with_reducible first|refine tE ?_|refine iS ?_|refine iO ?_)|go_values|go_skip|go_guarded|go_step|go_upon|go_back)
 go_ret2
 exact⟨rfl,h4.drewN _,HB.out⟩
theorem Z6A(a b:Int)(h0:0≤a)(h1:a<18446744073709551616)(g0:0≤b)(g1:b<18446744073709551616)(w:World):Calls prog 118 #[.int .i64 37,Z1 a b 64] w fun e w'=>e=.returned (.tuple #[.func (Fn.func 130) #[] #[.pointer (some ⟨w.heap.size,0,none⟩)],.int .i64 64])∧Nb w w'∧w'.heap[w.heap.size]? =some (.cells #[.int .u64 a,.int .u64 b,.int .i64 64] 127 (0,0)):=by
 clear h0 h1 g0 g1
 unfold Z1
 have hmf:=@mF prog
 go_enter func118,ntmps118
 repeat (first|(with_reducible first|refine tE ?_|refine iS ?_|refine iO ?_)|go_values|go_skip|go_guarded|go_step|go_upon|go_back)
 obtain⟨W1,hW⟩:∃W1,w.alloc (.cells #[.int .u64 a,.int .u64 b,.int .i64 64] 127)=W1:=⟨_,rfl⟩
 have hb:=Z0 w _ hW rfl
 have h2:Nb w W1:=by rw[←hW];exact(Nb.refl _).alloc _
 rw[hW]
 clear hW
 obtain⟨n1,c0,c1,c2⟩:=Zh hb
 have HB:=Lib.hid hb
 clear hb
 repeat (first|(with_reducible first|refine tE ?_|refine iS ?_|refine iO ?_)|go_values|go_skip|go_guarded|go_step|go_upon|go_back)
 go_quiet (fail)
 repeat (first|(with_reducible first|refine tE ?_|refine iS ?_|refine iO ?_)|go_values|go_skip|go_guarded|go_step|go_upon|go_back)
 go_ret2
 exact⟨rfl,h2.drewN _,HB.out⟩
theorem Z6B(a b:Int)(h0:0≤a)(h1:a<18446744073709551616)(g0:0≤b)(g1:b<18446744073709551616)(w:World):Calls prog 118 #[.int .i64 29,Z1 a b 64] w fun e w'=>e=.returned (.tuple #[.func (Fn.func 130) #[] #[.pointer (some ⟨w.heap.size,0,none⟩)],.int .i64 64])∧Nb w w'∧w'.heap[w.heap.size]? =some (.cells #[.int .u64 a,.int .u64 b,.int .i64 64] 127 (0,0)):=by
 clear h0 h1 g0 g1
 unfold Z1
 have hmf:=@mF prog
 go_enter func118,ntmps118
 repeat (first|(with_reducible first|refine tE ?_|refine iS ?_|refine iO ?_)|go_values|go_skip|go_guarded|go_step|go_upon|go_back)
 obtain⟨W1,hW⟩:∃W1,w.alloc (.cells #[.int .u64 a,.int .u64 b,.int .i64 64] 127)=W1:=⟨_,rfl⟩
 have hb:=Z0 w _ hW rfl
 have h2:Nb w W1:=by rw[←hW];exact(Nb.refl _).alloc _
 rw[hW]
 clear hW
 obtain⟨n1,c0,c1,c2⟩:=Zh hb
 have HB:=Lib.hid hb
 clear hb
 repeat (first|(with_reducible first|refine tE ?_|refine iS ?_|refine iO ?_)|go_values|go_skip|go_guarded|go_step|go_upon|go_back)
 go_quiet (fail)
 repeat (first|(with_reducible first|refine tE ?_|refine iS ?_|refine iO ?_)|go_values|go_skip|go_guarded|go_step|go_upon|go_back)
 go_ret2
 exact⟨rfl,h2.drewN _,HB.out⟩
theorem Z6C(a b:Int)(h0:0≤a)(h1:a<18446744073709551616)(g0:0≤b)(g1:b<18446744073709551616)(w:World):Calls prog 118 #[.int .i64 49,Z1 a b 64] w fun e w'=>e=.returned (.tuple #[.func (Fn.func 131) #[] #[.pointer (some ⟨w.heap.size,0,none⟩)],.int .i64 32])∧Nb w w'∧w'.heap[w.heap.size]? =some (.cells #[.int .u64 (Sgn a 32),.int .u64 (Sgn b 32),.int .i64 32] 127 (0,0)):=by
 have hs:=Lib.hid (Yr a b 64 h0 h1 g0 g1)
 clear h0 h1 g0 g1
 unfold Z1 at hs ⊢
 have hmf:=@mF prog
 go_enter func118,ntmps118
 repeat (first|(with_reducible first|refine tE ?_|refine iS ?_|refine iO ?_)|go_values|go_skip|go_guarded|go_step|go_upon|go_back)
 obtain⟨W1,hW⟩:∃W1,w.alloc (.cells #[.int .u64 a,.int .u64 b,.int .i64 64] 127)=W1:=⟨_,rfl⟩
 have hb:=Z0 w _ hW rfl
 have h2:Nb w W1:=by rw[←hW];exact(Nb.refl _).alloc _
 rw[hW]
 clear hW
 refine(hs.out _).mono ?_
 rintro e w1⟨rfl,hn⟩
 have hb1:=Nb.block hn hb
 obtain⟨n1,c0,c1,c2⟩:=Zh hb1
 obtain⟨f0,f1,f2⟩:=YA hb1
 clear hb hs
 go_wp2_with fail
 obtain⟨W3,hW⟩:∃W3,((w1.setCell ⟨w.heap.size,0,none⟩ (.int .u64 (Sgn a 32))).setCell ⟨w.heap.size,1,none⟩ (.int .u64 (Sgn b 32))).setCell ⟨w.heap.size,2,none⟩ (.int .i64 32)=W3:=⟨_,rfl⟩
 have hb3:W3.heap[w.heap.size]? =some (.cells #[.int .u64 (Sgn a 32),.int .u64 (Sgn b 32),.int .i64 32] 127 (0,0)):=by rw[←hW];exact XV hb1
 have h4:Nb w W3:=by rw[←hW];exact(((h2.trans hn).setCell (Nat.le_refl _) _).setCell (Nat.le_refl _) _).setCell (Nat.le_refl _) _
 rw[hW]
 clear hW c0 c1 c2 f0 f1 f2 n1 hb1 hn h2
 obtain⟨n1,c0,c1,c2⟩:=Zh hb3
 have HB:=Lib.hid hb3
 clear hb3
 repeat (first|(with_reducible first|refine tE ?_|refine iS ?_|refine iO ?_)|go_values|go_skip|go_guarded|go_step|go_upon|go_back)
 go_quiet (fail)
 repeat (first|(with_reducible first|refine tE ?_|refine iS ?_|refine iO ?_)|go_values|go_skip|go_guarded|go_step|go_upon|go_back)
 go_ret2
 exact⟨rfl,h4.drewN _,HB.out⟩
theorem Z6D(a b:Int)(h0:0≤a)(h1:a<18446744073709551616)(g0:0≤b)(g1:b<18446744073709551616)(w:World):Calls prog 118 #[.int .i64 44,Z1 a b 64] w fun e w'=>e=.returned (.tuple #[.func (Fn.func 131) #[] #[.pointer (some ⟨w.heap.size,0,none⟩)],.int .i64 32])∧Nb w w'∧w'.heap[w.heap.size]? =some (.cells #[.int .u64 (Sgn a 32),.int .u64 (Sgn b 32),.int .i64 32] 127 (0,0)):=by
 have hs:=Lib.hid (Yr a b 64 h0 h1 g0 g1)
 clear h0 h1 g0 g1
 unfold Z1 at hs ⊢
 have hmf:=@mF prog
 go_enter func118,ntmps118
 repeat (first|(with_reducible first|refine tE ?_|refine iS ?_|refine iO ?_)|go_values|go_skip|go_guarded|go_step|go_upon|go_back)
 obtain⟨W1,hW⟩:∃W1,w.alloc (.cells #[.int .u64 a,.int .u64 b,.int .i64 64] 127)=W1:=⟨_,rfl⟩
 have hb:=Z0 w _ hW rfl
 have h2:Nb w W1:=by rw[←hW];exact(Nb.refl _).alloc _
 rw[hW]
 clear hW
 refine(hs.out _).mono ?_
 rintro e w1⟨rfl,hn⟩
 have hb1:=Nb.block hn hb
 obtain⟨n1,c0,c1,c2⟩:=Zh hb1
 obtain⟨f0,f1,f2⟩:=YA hb1
 clear hb hs
 go_wp2_with fail
 obtain⟨W3,hW⟩:∃W3,((w1.setCell ⟨w.heap.size,0,none⟩ (.int .u64 (Sgn a 32))).setCell ⟨w.heap.size,1,none⟩ (.int .u64 (Sgn b 32))).setCell ⟨w.heap.size,2,none⟩ (.int .i64 32)=W3:=⟨_,rfl⟩
 have hb3:W3.heap[w.heap.size]? =some (.cells #[.int .u64 (Sgn a 32),.int .u64 (Sgn b 32),.int .i64 32] 127 (0,0)):=by rw[←hW];exact XV hb1
 have h4:Nb w W3:=by rw[←hW];exact(((h2.trans hn).setCell (Nat.le_refl _) _).setCell (Nat.le_refl _) _).setCell (Nat.le_refl _) _
 rw[hW]
 clear hW c0 c1 c2 f0 f1 f2 n1 hb1 hn h2
 obtain⟨n1,c0,c1,c2⟩:=Zh hb3
 have HB:=Lib.hid hb3
 clear hb3
 repeat (first|(with_reducible first|refine tE ?_|refine iS ?_|refine iO ?_)|go_values|go_skip|go_guarded|go_step|go_upon|go_back)
 go_quiet (fail)
 repeat (first|(with_reducible first|refine tE ?_|refine iS ?_|refine iO ?_)|go_values|go_skip|go_guarded|go_step|go_upon|go_back)
 go_ret2
 exact⟨rfl,h4.drewN _,HB.out⟩
theorem Z6E(a b:Int)(h0:0≤a)(h1:a<18446744073709551616)(g0:0≤b)(g1:b<18446744073709551616)(w:World):Calls prog 118 #[.int .i64 38,Z1 a b 64] w fun e w'=>e=.returned (.tuple #[.func (Fn.func 131) #[] #[.pointer (some ⟨w.heap.size,0,none⟩)],.int .i64 64])∧Nb w w'∧w'.heap[w.heap.size]? =some (.cells #[.int .u64 a,.int .u64 b,.int .i64 64] 127 (0,0)):=by
 clear h0 h1 g0 g1
 unfold Z1
 have hmf:=@mF prog
 go_enter func118,ntmps118
 repeat (first|(with_reducible first|refine tE ?_|refine iS ?_|refine iO ?_)|go_values|go_skip|go_guarded|go_step|go_upon|go_back)
 obtain⟨W1,hW⟩:∃W1,w.alloc (.cells #[.int .u64 a,.int .u64 b,.int .i64 64] 127)=W1:=⟨_,rfl⟩
 have hb:=Z0 w _ hW rfl
 have h2:Nb w W1:=by rw[←hW];exact(Nb.refl _).alloc _
 rw[hW]
 clear hW
 obtain⟨n1,c0,c1,c2⟩:=Zh hb
 have HB:=Lib.hid hb
 clear hb
 repeat (first|(with_reducible first|refine tE ?_|refine iS ?_|refine iO ?_)|go_values|go_skip|go_guarded|go_step|go_upon|go_back)
 go_quiet (fail)
 repeat (first|(with_reducible first|refine tE ?_|refine iS ?_|refine iO ?_)|go_values|go_skip|go_guarded|go_step|go_upon|go_back)
 go_ret2
 exact⟨rfl,h2.drewN _,HB.out⟩
theorem Z6F(a b:Int)(h0:0≤a)(h1:a<18446744073709551616)(g0:0≤b)(g1:b<18446744073709551616)(w:World):Calls prog 118 #[.int .i64 30,Z1 a b 64] w fun e w'=>e=.returned (.tuple #[.func (Fn.func 131) #[] #[.pointer (some ⟨w.heap.size,0,none⟩)],.int .i64 64])∧Nb w w'∧w'.heap[w.heap.size]? =some (.cells #[.int .u64 a,.int .u64 b,.int .i64 64] 127 (0,0)):=by
 clear h0 h1 g0 g1
 unfold Z1
 have hmf:=@mF prog
 go_enter func118,ntmps118
 repeat (first|(with_reducible first|refine tE ?_|refine iS ?_|refine iO ?_)|go_values|go_skip|go_guarded|go_step|go_upon|go_back)
 obtain⟨W1,hW⟩:∃W1,w.alloc (.cells #[.int .u64 a,.int .u64 b,.int .i64 64] 127)=W1:=⟨_,rfl⟩
 have hb:=Z0 w _ hW rfl
 have h2:Nb w W1:=by rw[←hW];exact(Nb.refl _).alloc _
 rw[hW]
 clear hW
 obtain⟨n1,c0,c1,c2⟩:=Zh hb
 have HB:=Lib.hid hb
 clear hb
 repeat (first|(with_reducible first|refine tE ?_|refine iS ?_|refine iO ?_)|go_values|go_skip|go_guarded|go_step|go_upon|go_back)
 go_quiet (fail)
 repeat (first|(with_reducible first|refine tE ?_|refine iS ?_|refine iO ?_)|go_values|go_skip|go_guarded|go_step|go_upon|go_back)
 go_ret2
 exact⟨rfl,h2.drewN _,HB.out⟩
theorem Z6G(a b:Int)(h0:0≤a)(h1:a<18446744073709551616)(g0:0≤b)(g1:b<18446744073709551616)(w:World):Calls prog 118 #[.int .i64 34,Z1 a b 64] w fun e w'=>e=.returned (.tuple #[.func (Fn.func 132) #[Z1 a b 64] #[],.int .i64 64])∧Nb w w':=by
 clear h0 h1 g0 g1
 unfold Z1
 have hmf:=@mF prog
 go_enter func118,ntmps118
 repeat (first|(with_reducible first|refine tE ?_|refine iS ?_|refine iO ?_)|go_values|go_skip|go_guarded|go_step|go_upon|go_back)
 obtain⟨W1,hW⟩:∃W1,w.alloc (.cells #[.int .u64 a,.int .u64 b,.int .i64 64] 127)=W1:=⟨_,rfl⟩
 have hb:=Z0 w _ hW rfl
 have h2:Nb w W1:=by rw[←hW];exact(Nb.refl _).alloc _
 rw[hW]
 clear hW
 obtain⟨n1,c0,c1,c2⟩:=Zh hb
 clear hb
 repeat (first|(with_reducible first|refine tE ?_|refine iS ?_|refine iO ?_)|go_values|go_skip|go_guarded|go_step|go_upon|go_back)
 go_quiet (fail)
 repeat (first|(with_reducible first|refine tE ?_|refine iS ?_|refine iO ?_)|go_values|go_skip|go_guarded|go_step|go_upon|go_back)
 go_ret2
 exact⟨rfl,h2.drewN _⟩
theorem Z6H(a b:Int)(h0:0≤a)(h1:a<18446744073709551616)(g0:0≤b)(g1:b<18446744073709551616)(w:World):Calls prog 118 #[.int .i64 23,Z1 a b 64] w fun e w'=>e=.returned (.tuple #[.func (Fn.func 132) #[Z1 a b 64] #[],.int .i64 64])∧Nb w w':=by
 clear h0 h1 g0 g1
 unfold Z1
 have hmf:=@mF prog
 go_enter func118,ntmps118
 repeat (first|(with_reducible first|refine tE ?_|refine iS ?_|refine iO ?_)|go_values|go_skip|go_guarded|go_step|go_upon|go_back)
 obtain⟨W1,hW⟩:∃W1,w.alloc (.cells #[.int .u64 a,.int .u64 b,.int .i64 64] 127)=W1:=⟨_,rfl⟩
 have hb:=Z0 w _ hW rfl
 have h2:Nb w W1:=by rw[←hW];exact(Nb.refl _).alloc _
 rw[hW]
 clear hW
 obtain⟨n1,c0,c1,c2⟩:=Zh hb
 clear hb
 repeat (first|(with_reducible first|refine tE ?_|refine iS ?_|refine iO ?_)|go_values|go_skip|go_guarded|go_step|go_upon|go_back)
 go_quiet (fail)
 repeat (first|(with_reducible first|refine tE ?_|refine iS ?_|refine iO ?_)|go_values|go_skip|go_guarded|go_step|go_upon|go_back)
 go_ret2
 exact⟨rfl,h2.drewN _⟩
theorem Z6I(a b:Int)(h0:0≤a)(h1:a<18446744073709551616)(g0:0≤b)(g1:b<18446744073709551616)(w:World):Calls prog 118 #[.int .i64 35,Z1 a b 64] w fun e w'=>e=.returned (.tuple #[.func (Fn.func 133) #[Z1 a b 64] #[],.int .i64 64])∧Nb w w':=by
 clear h0 h1 g0 g1
 unfold Z1
 have hmf:=@mF prog
 go_enter func118,ntmps118
 repeat (first|(with_reducible first|refine tE ?_|refine iS ?_|refine iO ?_)|go_values|go_skip|go_guarded|go_step|go_upon|go_back)
 obtain⟨W1,hW⟩:∃W1,w.alloc (.cells #[.int .u64 a,.int .u64 b,.int .i64 64] 127)=W1:=⟨_,rfl⟩
 have hb:=Z0 w _ hW rfl
 have h2:Nb w W1:=by rw[←hW];exact(Nb.refl _).alloc _
 rw[hW]
 clear hW
 obtain⟨n1,c0,c1,c2⟩:=Zh hb
 clear hb
 repeat (first|(with_reducible first|refine tE ?_|refine iS ?_|refine iO ?_)|go_values|go_skip|go_guarded|go_step|go_upon|go_back)
 go_quiet (fail)
 repeat (first|(with_reducible first|refine tE ?_|refine iS ?_|refine iO ?_)|go_values|go_skip|go_guarded|go_step|go_upon|go_back)
 go_ret2
 exact⟨rfl,h2.drewN _⟩
theorem Z6J(a b:Int)(h0:0≤a)(h1:a<18446744073709551616)(g0:0≤b)(g1:b<18446744073709551616)(w:World):Calls prog 118 #[.int .i64 24,Z1 a b 64] w fun e w'=>e=.returned (.tuple #[.func (Fn.func 133) #[Z1 a b 64] #[],.int .i64 64])∧Nb w w':=by
 clear h0 h1 g0 g1
 unfold Z1
 have hmf:=@mF prog
 go_enter func118,ntmps118
 repeat (first|(with_reducible first|refine tE ?_|refine iS ?_|refine iO ?_)|go_values|go_skip|go_guarded|go_step|go_upon|go_back)
 obtain⟨W1,hW⟩:∃W1,w.alloc (.cells #[.int .u64 a,.int .u64 b,.int .i64 64] 127)=W1:=⟨_,rfl⟩
 have hb:=Z0 w _ hW rfl
 have h2:Nb w W1:=by rw[←hW];exact(Nb.refl _).alloc _
 rw[hW]
 clear hW
 obtain⟨n1,c0,c1,c2⟩:=Zh hb
 clear hb
 repeat (first|(with_reducible first|refine tE ?_|refine iS ?_|refine iO ?_)|go_values|go_skip|go_guarded|go_step|go_upon|go_back)
 go_quiet (fail)
 repeat (first|(with_reducible first|refine tE ?_|refine iS ?_|refine iO ?_)|go_values|go_skip|go_guarded|go_step|go_upon|go_back)
 go_ret2
 exact⟨rfl,h2.drewN _⟩
theorem Z6K(a b:Int)(h0:0≤a)(h1:a<18446744073709551616)(g0:0≤b)(g1:b<18446744073709551616)(w:World):Calls prog 118 #[.int .i64 36,Z1 a b 64] w fun e w'=>e=.returned (.tuple #[.func (Fn.func 134) #[Z1 a b 64] #[],.int .i64 64])∧Nb w w':=by
 clear h0 h1 g0 g1
 unfold Z1
 have hmf:=@mF prog
 go_enter func118,ntmps118
 repeat (first|(with_reducible first|refine tE ?_|refine iS ?_|refine iO ?_)|go_values|go_skip|go_guarded|go_step|go_upon|go_back)
 obtain⟨W1,hW⟩:∃W1,w.alloc (.cells #[.int .u64 a,.int .u64 b,.int .i64 64] 127)=W1:=⟨_,rfl⟩
 have hb:=Z0 w _ hW rfl
 have h2:Nb w W1:=by rw[←hW];exact(Nb.refl _).alloc _
 rw[hW]
 clear hW
 obtain⟨n1,c0,c1,c2⟩:=Zh hb
 clear hb
 repeat (first|(with_reducible first|refine tE ?_|refine iS ?_|refine iO ?_)|go_values|go_skip|go_guarded|go_step|go_upon|go_back)
 go_quiet (fail)
 repeat (first|(with_reducible first|refine tE ?_|refine iS ?_|refine iO ?_)|go_values|go_skip|go_guarded|go_step|go_upon|go_back)
 go_ret2
 exact⟨rfl,h2.drewN _⟩
theorem Z6L(a b:Int)(h0:0≤a)(h1:a<18446744073709551616)(g0:0≤b)(g1:b<18446744073709551616)(w:World):Calls prog 118 #[.int .i64 25,Z1 a b 64] w fun e w'=>e=.returned (.tuple #[.func (Fn.func 134) #[Z1 a b 64] #[],.int .i64 64])∧Nb w w':=by
 clear h0 h1 g0 g1
 unfold Z1
 have hmf:=@mF prog
 go_enter func118,ntmps118
 repeat (first|(with_reducible first|refine tE ?_|refine iS ?_|refine iO ?_)|go_values|go_skip|go_guarded|go_step|go_upon|go_back)
 obtain⟨W1,hW⟩:∃W1,w.alloc (.cells #[.int .u64 a,.int .u64 b,.int .i64 64] 127)=W1:=⟨_,rfl⟩
 have hb:=Z0 w _ hW rfl
 have h2:Nb w W1:=by rw[←hW];exact(Nb.refl _).alloc _
 rw[hW]
 clear hW
 obtain⟨n1,c0,c1,c2⟩:=Zh hb
 clear hb
 repeat (first|(with_reducible first|refine tE ?_|refine iS ?_|refine iO ?_)|go_values|go_skip|go_guarded|go_step|go_upon|go_back)
 go_quiet (fail)
 repeat (first|(with_reducible first|refine tE ?_|refine iS ?_|refine iO ?_)|go_values|go_skip|go_guarded|go_step|go_upon|go_back)
 go_ret2
 exact⟨rfl,h2.drewN _⟩
theorem Z6M(a b:Int)(h0:0≤a)(h1:a<18446744073709551616)(g0:0≤b)(g1:b<18446744073709551616)(w:World):Calls prog 118 #[.int .i64 39,Z1 a b 64] w fun e w'=>e=.returned (.tuple #[.func (Fn.func 135) #[Z1 a b 64] #[],.int .i64 64])∧Nb w w':=by
 clear h0 h1 g0 g1
 unfold Z1
 have hmf:=@mF prog
 go_enter func118,ntmps118
 repeat (first|(with_reducible first|refine tE ?_|refine iS ?_|refine iO ?_)|go_values|go_skip|go_guarded|go_step|go_upon|go_back)
 obtain⟨W1,hW⟩:∃W1,w.alloc (.cells #[.int .u64 a,.int .u64 b,.int .i64 64] 127)=W1:=⟨_,rfl⟩
 have hb:=Z0 w _ hW rfl
 have h2:Nb w W1:=by rw[←hW];exact(Nb.refl _).alloc _
 rw[hW]
 clear hW
 obtain⟨n1,c0,c1,c2⟩:=Zh hb
 clear hb
 repeat (first|(with_reducible first|refine tE ?_|refine iS ?_|refine iO ?_)|go_values|go_skip|go_guarded|go_step|go_upon|go_back)
 go_quiet (fail)
 repeat (first|(with_reducible first|refine tE ?_|refine iS ?_|refine iO ?_)|go_values|go_skip|go_guarded|go_step|go_upon|go_back)
 go_ret2
 exact⟨rfl,h2.drewN _⟩
theorem Z6N(a b:Int)(h0:0≤a)(h1:a<18446744073709551616)(g0:0≤b)(g1:b<18446744073709551616)(w:World):Calls prog 118 #[.int .i64 26,Z1 a b 64] w fun e w'=>e=.returned (.tuple #[.func (Fn.func 135) #[Z1 a b 64] #[],.int .i64 64])∧Nb w w':=by
 clear h0 h1 g0 g1
 unfold Z1
 have hmf:=@mF prog
 go_enter func118,ntmps118
 repeat (first|(with_reducible first|refine tE ?_|refine iS ?_|refine iO ?_)|go_values|go_skip|go_guarded|go_step|go_upon|go_back)
 obtain⟨W1,hW⟩:∃W1,w.alloc (.cells #[.int .u64 a,.int .u64 b,.int .i64 64] 127)=W1:=⟨_,rfl⟩
 have hb:=Z0 w _ hW rfl
 have h2:Nb w W1:=by rw[←hW];exact(Nb.refl _).alloc _
 rw[hW]
 clear hW
 obtain⟨n1,c0,c1,c2⟩:=Zh hb
 clear hb
 repeat (first|(with_reducible first|refine tE ?_|refine iS ?_|refine iO ?_)|go_values|go_skip|go_guarded|go_step|go_upon|go_back)
 go_quiet (fail)
 repeat (first|(with_reducible first|refine tE ?_|refine iS ?_|refine iO ?_)|go_values|go_skip|go_guarded|go_step|go_upon|go_back)
 go_ret2
 exact⟨rfl,h2.drewN _⟩
theorem Z6O(a b:Int)(h0:0≤a)(h1:a<18446744073709551616)(g0:0≤b)(g1:b<18446744073709551616)(w:World):Calls prog 118 #[.int .i64 40,Z1 a b 64] w fun e w'=>e=.returned (.tuple #[.func (Fn.func 136) #[Z1 a b 64] #[],.int .i64 64])∧Nb w w':=by
 clear h0 h1 g0 g1
 unfold Z1
 have hmf:=@mF prog
 go_enter func118,ntmps118
 repeat (first|(with_reducible first|refine tE ?_|refine iS ?_|refine iO ?_)|go_values|go_skip|go_guarded|go_step|go_upon|go_back)
 obtain⟨W1,hW⟩:∃W1,w.alloc (.cells #[.int .u64 a,.int .u64 b,.int .i64 64] 127)=W1:=⟨_,rfl⟩
 have hb:=Z0 w _ hW rfl
 have h2:Nb w W1:=by rw[←hW];exact(Nb.refl _).alloc _
 rw[hW]
 clear hW
 obtain⟨n1,c0,c1,c2⟩:=Zh hb
 clear hb
 repeat (first|(with_reducible first|refine tE ?_|refine iS ?_|refine iO ?_)|go_values|go_skip|go_guarded|go_step|go_upon|go_back)
 go_quiet (fail)
 repeat (first|(with_reducible first|refine tE ?_|refine iS ?_|refine iO ?_)|go_values|go_skip|go_guarded|go_step|go_upon|go_back)
 go_ret2
 exact⟨rfl,h2.drewN _⟩
theorem Z6P(a b:Int)(h0:0≤a)(h1:a<18446744073709551616)(g0:0≤b)(g1:b<18446744073709551616)(w:World):Calls prog 118 #[.int .i64 27,Z1 a b 64] w fun e w'=>e=.returned (.tuple #[.func (Fn.func 136) #[Z1 a b 64] #[],.int .i64 64])∧Nb w w':=by
 clear h0 h1 g0 g1
 unfold Z1
 have hmf:=@mF prog
 go_enter func118,ntmps118
 repeat (first|(with_reducible first|refine tE ?_|refine iS ?_|refine iO ?_)|go_values|go_skip|go_guarded|go_step|go_upon|go_back)
 obtain⟨W1,hW⟩:∃W1,w.alloc (.cells #[.int .u64 a,.int .u64 b,.int .i64 64] 127)=W1:=⟨_,rfl⟩
 have hb:=Z0 w _ hW rfl
 have h2:Nb w W1:=by rw[←hW];exact(Nb.refl _).alloc _
 rw[hW]
 clear hW
 obtain⟨n1,c0,c1,c2⟩:=Zh hb
 clear hb
 repeat (first|(with_reducible first|refine tE ?_|refine iS ?_|refine iO ?_)|go_values|go_skip|go_guarded|go_step|go_upon|go_back)
 go_quiet (fail)
 repeat (first|(with_reducible first|refine tE ?_|refine iS ?_|refine iO ?_)|go_values|go_skip|go_guarded|go_step|go_upon|go_back)
 go_ret2
 exact⟨rfl,h2.drewN _⟩
end Go.Proofs.YtgpdpaljbiclkaaGreatDoor

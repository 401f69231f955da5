/-
  Proved here: what the walks' own tactics name. Conditions: none.
-/
import Derived.WalkKit
namespace Go.Proofs.YtgpdpaljbiclkaaGreatDoor
open Go.RowKit
def xN:Exit→Bool
 |.normal=>true
 |_=>false
def xE (i:Nat):Exit→Bool
 |.exit k=>k==i
 |_=>false
theorem tE {K:Act→World→Prop} {Q:Exit→Act→World→Prop} {x:Exit} {a:Act} {w:World} (h:Q x a w) (hx:xN x=false:=by decide):Exit.then K Q x a w:=by
 cases x with
 |normal=>simp [xN] at hx
 |_=>exact h
theorem iS {Q:Exit→Act→World→Prop} {k:Nat} {a:Act} {w:World} (h:Q .normal a w):Exit.inBlock k Q (.exit k) a w:=by
 simp only [Exit.inBlock,if_true];exact h
theorem iO {Q:Exit→Act→World→Prop} {i:Nat} {x:Exit} {a:Act} {w:World} (h:Q x a w) (hx:xE i x=false:=by decide):Exit.inBlock i Q x a w:=by
 cases x with
 |exit k=>
  have:¬k=i:=by simpa [xE] using hx
  simp only [Exit.inBlock,this,if_false];exact h
 |_=>exact h
theorem mF {p:Program}(fn:Fn)(first cap:Array Value)(w:World):(Instr.makeFunc fn first cap).run p w=.ok (.func fn first cap) w:=rfl
theorem sI {α:Type _}(l:List α)(i:Nat)(a:α):l.toArray.setIfInBounds i a=(l.set i a).toArray:=List.setIfInBounds_toArray ..
theorem sZ {α:Type _}{x y:α}{l:List α}:(x::l).set 0 y=y::l:=rfl
theorem sS {α:Type _}{x y:α}{l:List α}{i:Nat}:(x::l).set (i+1) y=x::l.set i y:=rfl
theorem nB {α:Type _}[BEq α][LawfulBEq α]{a b:α}(h:a≠b):(a==b)=false:=beq_eq_false_iff_ne.2 h
end Go.Proofs.YtgpdpaljbiclkaaGreatDoor

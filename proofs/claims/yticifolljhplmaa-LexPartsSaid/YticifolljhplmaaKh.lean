/-
  Proved here: of lex: Tokens. Conditions: the slice holds the source.
-/
import Derived.Test.YticifolljhplmaaKg
import Derived.Laws.AppendOwn
import Derived.Laws.OwnMore
import Derived.Deep.AppendLies
namespace Go.Proofs.Yticifolljhplmaa
open Go.ChangeShapes Go.WideShapes Go.ChangeAt Go.RowKit
set_option linter.unusedVariables false
set_option linter.unusedSimpArgs false
set_option maxRecDepth 100000
set_option maxHeartbeats 2000000
def tkL (t : Tk) : List Value := [.int .i64 t.1, .int .i64 t.2.1, .string ⟨t.2.2.1.toArray⟩, .int .i64 t.2.2.2]
theorem infoT : (Try.prog.info? 47).map (fun i => (i.zero, i.size, i.bytes)) = some (some (.agg (tkC 0 0 [] 0)), 4, 40) := by kernel_rfl
theorem partsT : ∃ i, Try.prog.info? 47 = some i ∧ i.zero = some (.agg (tkC 0 0 [] 0)) ∧ i.size = 4 ∧ i.bytes = 40 := by
  have h := infoT
  cases hq : Try.prog.info? 47 with
  | none => rw [hq] at h; cases h
  | some i =>
    rw [hq] at h
    simp only [Option.map_some, Option.some.injEq, Prod.mk.injEq] at h
    exact ⟨i, rfl, h.1, h.2.1, h.2.2⟩
theorem one_cellT (t : Tk) : ∀ u ∈ tkL t, u.oneCell' = true := fun u hu => by
  unfold tkL at hu
  simp only [List.mem_cons, List.not_mem_nil, or_false] at hu
  rcases hu with rfl | rfl | rfl | rfl <;> rfl
theorem newsT (w : World) (t : Tk) : ∀ j u, (tkL t)[j]? = some u → (w.alloc (.cells (tkL t).toArray 47)).cell? ((⟨w.heap.size, 0, none⟩ : Addr).add j) = some u := fun j u h =>
  World.news_of_block (cs := (tkL t).toArray) (t := 47) (fr := (0, 0)) (heap_alloc_new w _) j u (by simpa using h)
theorem own_grownT {w wr w1 : World} {v : Value} {n : Nat} {xs : List Value} {o : Obj} (hN : Nb w wr) (hown : wr.ownsRow w.heap.size 47 4 v n xs)
    (hg : (wr.alloc o).grownBy w1 v.ownBlock) : Nb w w1 :=
  Below.grown (hN.alloc _) hg (by have := hN.size; simp; omega) (fun k hk => (hown.lt k hk).1)
theorem own_nbT {w w' : World} {b n : Nat} {v : Value} {xs : List Value} (h : w.ownsRow b 47 4 v n xs) (hn : Nb w w') : w'.ownsRow b 47 4 v n xs :=
  h.kept (row := none) ⟨hn.os, hn.tape, hn.output, hn.size, fun k hk _ => Below.block hn k hk⟩ (by cases v.ownBlock <;> simp)
def endT (l : Bs) : Tk := (5, l.length, [], 0)
/-- What Tokens answers: the words, or the first wrong one's place. -/
def TA (l : Bs) : List Tk × Nat × Bool := if 65536 < l.length then ([], 65536, false) else match TT l 0 with
  | .inl p => ([], p, false)
  | .inr ts => (ts ++ [endT l], 0, true)
def TokAns (l : Bs) (w : World) (e : Ending) (w' : World) : Prop := ∃ v, e = .returned (.tuple #[v, .int .i64 ((TA l).2.1 : Int), .int .i64 (if (TA l).2.2 = true then 0 else 110)]) ∧ Nb w w' ∧
  w'.ownsRow w.heap.size 47 4 v (TA l).1.length ((TA l).1.flatMap tkL)
theorem ta_err {l : Bs} {w w' : World} {p : Nat} {b : Int} (h : TA l = ([], p, false)) (hb : b = p) (hn : Nb w w') : TokAns l w (.returned (.tuple #[.slice none 0 0, .int .i64 b, .int .i64 110])) w' := by
  refine ⟨.slice none 0 0, ?_, hn, ?_⟩
  · rw [h, hb]; rfl
  · rw [h]; exact World.ownsRow_nil _ _ _ _
theorem ta_ok {l : Bs} {w w' : World} {ts : List Tk} {v : Value} (h : TA l = (ts, 0, true)) (hn : Nb w w') (ho : w'.ownsRow w.heap.size 47 4 v ts.length (ts.flatMap tkL)) : TokAns l w (.returned (.tuple #[v, .int .i64 0, .int .i64 0])) w' := by
  refine ⟨v, ?_, hn, ?_⟩
  · rw [h]; rfl
  · rw [h]; exact ho
theorem app_cons (acc : List Tk) (t : Tk) (X : Nat ⊕ List Tk) : appT acc (consT t X) = appT (acc ++ [t]) X := by
  cases X with
  | inl e => rfl
  | inr ts => simp [appT, consT]
/-- A step of the words: the first one from a place on. -/
theorem step_none {xs : Bs} {k : Nat} (hk : k < xs.length) {kd : Int} {tx : Bs} {v : Int} {m : Nat} (hw : waS (xs.drop k) = (kd, tx, v, m)) (hr : rightS (kd, tx, v, m) = false) : Wl (xs.drop k) k = .inl k := by
  rw [drop_cons xs k hk] at hw ⊢
  exact Wl_none (by unfold oneS; rw [hw, if_neg (by rw [hr]; simp)])
theorem step_some {xs : Bs} {k : Nat} (hk : k < xs.length) {kd : Int} {tx : Bs} {v : Int} {m : Nat} (hw : waS (xs.drop k) = (kd, tx, v, m)) (hr : rightS (kd, tx, v, m) = true) :
    1 ≤ m ∧ k + m ≤ xs.length ∧ Wl (xs.drop k) k = consT (kd, k, tx, v) (Wl (xs.drop (k + m + btw (xs.drop (k + m)) false)) (k + m + btw (xs.drop (k + m)) false)) := by
  have h1 : oneS (xs.drop k) = some (kd, tx, v, m) := by unfold oneS; rw [hw, if_pos hr]
  obtain ⟨k1, k2, -⟩ := one_is h1
  rw [List.length_drop] at k2
  refine ⟨k1, by omega, ?_⟩
  have h2 := h1
  rw [drop_cons xs k hk] at h2
  have h3 := Wl_some (p := k) h2
  rw [← drop_cons xs k hk] at h3
  rw [h3]
  unfold TT
  rw [List.drop_drop (i := m) (j := k), List.drop_drop]
theorem tokens_any (A : Option Addr) (cap : Nat) (xs : Bs) (hc : xs.length ≤ cap) (hx : xs.length ≤ 9223372036854775807) (w : World) (hS : SrcB w A xs) :
    Calls Try.prog 18 #[.slice A xs.length cap] w (TokAns xs w) := by
  have hS' := Lib.hid hS
  clear hS
  by_cases h1 : (65536 : Int) < (xs.length : Int)
  · have hT : TA xs = ([], 65536, false) := by unfold TA; rw [if_pos (by omega)]
    go_enter Try.func18, Try.ntmps18
    go_wp2_with fail
    go_ret3
    exact ta_err hT rfl (Nb.refl _)
  · obtain ⟨X, hX⟩ : ∃ X, TT xs 0 = X := ⟨_, rfl⟩
    have hTe := fun p (e : X = .inl p) => (show TA xs = ([], p, false) by unfold TA; rw [if_neg (by omega), hX, e])
    have hTo := fun ts (e : X = .inr ts) => (show TA xs = (ts ++ [endT xs], 0, true) by unfold TA; rw [if_neg (by omega), hX, e])
    have hq0 := btw_le xs false
    unfold TT at hX
    have hB := fun w1 (k : Nb w w1) (p : Nat) (hp : p ≤ xs.length) => between_any A cap xs p (by omega) hp w1 (hS'.out.nb k)
    have hX' : appT [] (Wl (xs.drop (btw xs false)) (btw xs false)) = X := by
      rw [Nat.zero_add] at hX
      rw [hX]
      cases X <;> rfl
    have hX' := Lib.hid hX'
    have hB := Lib.hid hB
    have hTe := Lib.hid hTe
    have hTo := Lib.hid hTo
    have hx2 : xs.length ≤ 65536 := by omega
    clear hX hx
    obtain ⟨i0, hi, hz0, hz1, hz2⟩ := partsT
    go_enter Try.func18, Try.ntmps18
    have hB0 := hB.out _ (Nb.refl _) 0 (Nat.zero_le _)
    rw [List.drop_zero, Nat.zero_add] at hB0
    have hB0 := Lib.hid hB0
    go_wp2_with (go_at_call 29; refine (hB0.out).mono ?_; rintro e w1 ⟨rfl, rfl⟩)
    go_loopw [5, 6] (fun o f wr => ∃ (k : Nat) (acc : List Tk), k ≤ xs.length ∧ acc.length ≤ k ∧ f = .int .i64 k ∧ Hid (appT acc (Wl (xs.drop k) k) = X) ∧ wr.ownsRow w.heap.size 47 4 o acc.length (acc.flatMap tkL) ∧ Nb w wr) (fun _ f _ => xs.length - (intOf f).toNat)
    case atStart => exact ⟨btw xs false, [], by omega, Nat.zero_le _, rfl, hX', World.ownsRow_nil _ _ _ _, Nb.refl _⟩
    case round =>
      obtain ⟨k, acc, hk, ha, rfl, hR, hown, hN⟩ := hrel
      by_cases hlt : k < xs.length
      · have hlt2 : (k : Int) < (xs.length : Int) := by omega
        obtain ⟨⟨kd, tx, v, m⟩, hw⟩ : ∃ t, waS (xs.drop k) = t := ⟨_, rfl⟩
        have htl : tx.length ≤ xs.length := by have h9 := wa_len (xs.drop k); rw [hw, List.length_drop] at h9; simp at h9; omega
        have hwd := Lib.hid (word_any A cap xs k (by omega) hc hlt kd tx v m hw wr (hS'.out.nb hN))
        have hrt := Lib.hid (right_any kd k tx v m (by omega))
        cases hr : rightS (kd, tx, v, m) with
        | false =>
          rw [hr] at hrt
          have hw0 := step_none hlt hw hr
          have hR2 := hR.out
          rw [hw0] at hR2
          have hT := Lib.hid (hTe.out k hR2.symm)
          clear hR2 hw0 hR hw hr hown ha hk
          go_upto_region 7 with (go_at_call 30; refine (hwd.out).mono ?_; rintro e w1 ⟨rfl, n1⟩)
          obtain ⟨W2, hW⟩ : ∃ W2, w1.alloc (Obj.cells (tkC kd k tx v) 47) = W2 := ⟨_, rfl⟩
          have n2 : Nb w W2 := by rw [← hW]; exact (hN.trans n1).alloc _
          have b2 : W2.heap[w1.heap.size]? = some (.cells (tkC kd k tx v) 47 (0, 0)) := by rw [← hW]; exact new_blk w1 _ rfl
          rw [hW]
          clear hW
          obtain ⟨⟨c0, c1, c2, c3⟩, -⟩ := tk4 b2
          go_wp2_with (go_at_call 31; refine (hrt.out _).mono ?_; rintro e w3 ⟨rfl, n3⟩)
          go_ret3
          exact ta_err hT.out rfl (n2.trans n3)
        | true =>
          rw [hr] at hrt
          obtain ⟨m1, km, hw0⟩ := step_some hlt hw hr
          have hR2 := hR.out
          rw [hw0, app_cons] at hR2
          have hR2 := Lib.hid hR2
          have hkb := btw_le (xs.drop (k + m)) false
          rw [List.length_drop] at hkb
          clear hw0 hR hw hr
          go_upto_region 7 with (go_at_call 30; refine (hwd.out).mono ?_; rintro e w1 ⟨rfl, n1⟩)
          have hown1 := own_nbT hown n1
          obtain ⟨W2, hW⟩ : ∃ W2, w1.alloc (Obj.cells (tkC kd k tx v) 47) = W2 := ⟨_, rfl⟩
          have n12 : Nb w1 W2 := by rw [← hW]; exact (Nb.refl _).alloc _
          have n2 : Nb w W2 := (hN.trans n1).trans n12
          have hown2 := own_nbT hown1 n12
          have b2 : W2.heap[w1.heap.size]? = some (.cells (tkC kd k tx v) 47 (0, 0)) := by rw [← hW]; exact new_blk w1 _ rfl
          rw [hW]
          clear hW hown hown1 n12 n1
          obtain ⟨⟨c0, c1, c2, c3⟩, -⟩ := tk4 b2
          go_upto_region 9 with (go_at_call 31; refine (hrt.out _).mono ?_; rintro e w3 ⟨rfl, n3⟩)
          have hown3 := own_nbT hown2 n3
          have n4 := n2.trans n3
          replace b2 := n3.block b2
          clear hown2 n2 n3 c0 c1 c2 c3 hN
          obtain ⟨⟨c0, c1, c2, c3⟩, -⟩ := tk4 b2
          go_upto_region 10 with (at_builtin; refine wpList_append_own _ rfl _ _ 37 rfl w.heap.size 47 i0 _ 4 40 Try.underlying37 hi hz0 hz1 hz2 rfl (by decide) _ _ _ rfl (hown3.alloc _) ⟨w3.heap.size, 0, none⟩ 1 1 (tkL (kd, k, tx, v)) rfl rfl ?c1 ?c2 ?c3 ?c4 ?c5 ?_)
          case c1 => exact newsT w3 (kd, k, tx, v)
          case c2 => exact one_cellT _
          case c3 => unfold maxLen; omega
          case c4 => omega
          case c5 => have := n4.size; simp; omega
          intro v' w6 hown' hgrow _
          have n5 := own_grownT n4 hown3 hgrow
          have hown6 : w6.ownsRow w.heap.size 47 4 v' (acc ++ [(kd, k, tx, v)]).length ((acc ++ [(kd, k, tx, v)]).flatMap tkL) := by
            rw [List.length_append, List.flatMap_append]
            simpa using hown'
          clear hown' hgrow hown3 n4 c0 c1 c2 c3 b2
          have hB1 := Lib.hid (hB.out _ n5 (k + m) km)
          go_wp2_with (go_at_call 29; refine (hB1.out).mono ?_; rintro e w7 ⟨rfl, rfl⟩)
          exact ⟨⟨k + m + btw (xs.drop (k + m)) false, acc ++ [(kd, k, tx, v)], by omega, by simp; omega, (by first | rfl | trivial), hR2, hown6, n5⟩, by simp [intOf] <;> omega⟩
      · obtain rfl : k = xs.length := by omega
        have hR2 := hR.out
        rw [List.drop_length, Wl_nil] at hR2
        have hT := Lib.hid (hTo.out acc (by rw [← hR2]; simp [appT]))
        clear hR2 hR
        go_wp2_with (at_builtin; refine wpList_append_own _ rfl _ _ 37 rfl w.heap.size 47 i0 _ 4 40 Try.underlying37 hi hz0 hz1 hz2 rfl (by decide) _ _ _ rfl (hown.alloc _) ⟨wr.heap.size, 0, none⟩ 1 1 (tkL (endT xs)) rfl rfl ?c1 ?c2 ?c3 ?c4 ?c5 ?_)
        case c1 => exact newsT wr (endT xs)
        case c2 => exact one_cellT _
        case c3 => unfold maxLen; omega
        case c4 => omega
        case c5 => have := hN.size; simp; omega
        intro v' w6 hown' hgrow _
        have n5 := own_grownT hN hown hgrow
        have hown6 : w6.ownsRow w.heap.size 47 4 v' (acc ++ [endT xs]).length ((acc ++ [endT xs]).flatMap tkL) := by
          rw [List.length_append, List.flatMap_append]
          simpa using hown'
        clear hown' hgrow
        go_wp2_with fail
        go_ret3
        exact ta_ok hT.out n5 hown6
end Go.Proofs.Yticifolljhplmaa

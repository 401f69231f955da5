/-
  Proved here: a pattern's variables, the code's. Conditions: the memory holds the pattern; each of its tuples has a variable in it; there are fewer than a million variables, and levels.
-/
import Derived.Test.YtchcfjlkgnlnoaaPj
namespace Go.Proofs.Ytchcfjlkgnlnoaa
open Go.RowKit Go.ChangeMaps
set_option linter.unusedVariables false
set_option linter.unusedSimpArgs false
set_option maxRecDepth 100000
set_option maxHeartbeats 4000000
/-- Names and paths, where they lie. -/
structure VsR (w : World) (nv qv : Value) (l : List (Bs × List Int)) : Prop where
  nm : RowS w 1 nv (l.map fun a => [sV a.1])
  ps : ∃ B, qv = .slice B l.length l.length ∧ ∀ (i : Nat) (a : Bs × List Int), l[i]? = some a → ∃ g pv, B = some ⟨g, 0, none⟩ ∧ w.cell? ⟨g, i, none⟩ = some pv ∧ IntR w pv a.2
theorem VsR.nb {w w' : World} {nv qv : Value} {l : List (Bs × List Int)} (h : VsR w nv qv l) (k : Nb w w') : VsR w' nv qv l := by
  obtain ⟨B, e, hr⟩ := h.ps
  exact ⟨h.nm.nb k, B, e, fun i t hi => by
    obtain ⟨g, pv, a, b, p⟩ := hr i t hi
    exact ⟨g, pv, a, k.cell b, p.nb k⟩⟩
theorem own_clip {w : World} {base n c s : Nat} {e : TypeId} {B : Option Addr} {xs : List Value} (h : w.ownsRow base e s (.slice B n c) n xs) : n ≤ c ∧ (B = none → c = 0) := by
  rcases h.2 with ⟨h0, h1⟩ | ⟨g, cap, cur, h0, _, _, hnc, _⟩
  · simp only [Value.slice.injEq] at h0
    obtain ⟨rfl, -, rfl⟩ := h0
    exact ⟨by omega, fun _ => rfl⟩
  · simp only [Value.slice.injEq] at h0
    obtain ⟨rfl, -, rfl⟩ := h0
    exact ⟨hnc, fun h => nomatch h⟩
theorem own_names {w : World} {base c : Nat} {B : Option Addr} {l : List (Bs × List Int)} {n : Nat} (h : w.ownsRow base 9 1 (.slice B n c) n (l.map fun a => sV a.1)) (hn : l.length = n) (hm : l.length ≤ 1000000) : RowS w 1 (.slice B n n) (l.map fun a => [sV a.1]) := by
  subst hn
  rcases h.2 with ⟨h0, h1⟩ | ⟨g, cap, cur, h0, _, hg, hnc, hcm, _, _⟩
  · simp only [Value.slice.injEq] at h0
    obtain ⟨rfl, -, rfl⟩ := h0
    have hx : l = [] := List.eq_nil_of_length_eq_zero h1
    subst hx
    exact ⟨none, 0, rfl, Nat.le_refl _, by simp, fun _ => rfl, fun i r hi => by simp at hi⟩
  · simp only [Value.slice.injEq, true_and] at h0
    obtain ⟨rfl, rfl⟩ := h0
    refine ⟨some ⟨g, 0, none⟩, l.length, by simp, by simp, by simp; omega, (fun h => nomatch h), fun i r hi => ⟨g, 0, rfl, fun j u hu => ?_⟩⟩
    rw [List.getElem?_map, Option.map_eq_some_iff] at hi
    obtain ⟨x, hx, rfl⟩ := hi
    have hlt := (List.getElem?_eq_some_iff.1 hx).1
    cases j with
    | succ j => simp at hu
    | zero =>
      simp only [List.getElem?_cons_zero, Option.some.injEq] at hu
      subst hu
      rw [show 0 + i * 1 + 0 = i by omega, h.cellAt i (by omega), List.getElem?_map, hx]
      rfl
theorem al7 (w : World) (o0 o1 o2 o3 o4 o5 o6 : Obj) (p : Nat) (hp : w.heap.size = p) : ∃ W, ((((((w.alloc o0).alloc o1).alloc o2).alloc o3).alloc o4).alloc o5).alloc o6 = W ∧ Nb w W ∧ W.heap.size = p + 7 ∧ W.heap[p]? = some o0 ∧ W.heap[p + 1]? = some o1 ∧ W.heap[p + 1 + 1]? = some o2 ∧ W.heap[p + 1 + 1 + 1]? = some o3 ∧ W.heap[p + 1 + 1 + 1 + 1]? = some o4 ∧ W.heap[p + 1 + 1 + 1 + 1 + 1]? = some o5 ∧ W.heap[p + 1 + 1 + 1 + 1 + 1 + 1]? = some o6 := by
  obtain ⟨W, hW, n, h0, h1, h2, h3, h4, h5⟩ := al6 w o0 o1 o2 o3 o4 o5 p hp
  have hs : W.heap.size = p + 6 := by rw [← hW, ← hp]; simp
  rw [hW]
  exact ⟨_, rfl, n.alloc _, by simp [hs], old_blk h0 _, old_blk h1 _, old_blk h2 _, old_blk h3 _, old_blk h4 _, old_blk h5 _, new_blk _ _ (by omega)⟩
theorem Vars_any (e : Ex) (w : World) (he : e.Has w) (hf : e.full = true) (hn : (e.vsP []).length ≤ 1000000) (hd : e.dpt ≤ 1000000) :
    Calls Try.prog 12 #[.agg e.cells.toArray] w fun r w' => ∃ nv qv, r = .returned (.tuple #[nv, qv]) ∧ Nb w w' ∧ VsR w' nv qv (e.vsP []) := by
  obtain ⟨A, cap, hav, hcap, hlen, hA⟩ := he.exs.head
  have hcs : e.cells.toArray = #[.int .i64 e.kind, .int .i64 e.at_, .int .i64 e.n, sV e.name, .slice A e.args.length cap] := by rw [← hav]; rfl
  have hgat := fun nb qb pb mb mx gb B1 hc W' h => vars_any w nb qb pb mb mx gb B1 hc e he hf [] [] [] (by simpa using hn) (by simpa using hn) (by simpa using hd) W' h
  rw [hcs] at hgat ⊢
  clear hcs
  obtain ⟨L, hL⟩ : ∃ L, e.args.length = L := ⟨_, rfl⟩
  rw [hL] at hgat ⊢
  obtain ⟨k, hk⟩ : ∃ k, e.kind = k := ⟨_, rfl⟩
  obtain ⟨n, hn'⟩ : ∃ k, e.n = k := ⟨_, rfl⟩
  obtain ⟨at_, hat⟩ : ∃ k, e.at_ = k := ⟨_, rfl⟩
  obtain ⟨nm, hnm⟩ : ∃ k, e.name = k := ⟨_, rfl⟩
  rw [hk, hn', hat, hnm] at hgat ⊢
  obtain ⟨TT, hTT⟩ : ∃ TT, e.vsP [] = TT := ⟨_, rfl⟩
  rw [hTT] at hgat hn ⊢
  replace hgat := Lib.hid hgat
  have hmm := @run_makeMap Try.prog
  clear hTT hk hn' hat hnm hL hlen hcap hav hA hd he hf
  go_enter Try.func12, Try.ntmps12
  go_upto_region 7 with (fail)
  obtain ⟨p, hp⟩ : ∃ p, w.heap.size = p := ⟨_, rfl⟩
  rw [hp]
  obtain ⟨O6, hO6⟩ : ∃ o : Obj, Obj.cells #[vgV (p + 1) (p + 1 + 1) (p + 1 + 1 + 1) (p + 1 + 1 + 1 + 1 + 1) (p + 1 + 1 + 1 + 1 + 1 + 1)] 85 = o := ⟨_, rfl⟩
  rw [hO6]
  obtain ⟨W1, hW1, n1, hsz, b0, b1, b2, b3, b4, b5, b6⟩ := al7 w (Obj.cells #[.int .i64 k, .int .i64 at_, .int .i64 n, sV nm, .slice A L cap] 24) (Obj.cells #[.slice none 0 0] 25) (Obj.cells #[.slice none 0 0] 35) (Obj.cells #[.slice none 0 0] 26) (Obj.map #[] 0) (Obj.cells #[.map (some (p + 1 + 1 + 1 + 1))] 84) O6 p hp
  rw [hW1]
  clear hW1
  subst hO6
  obtain ⟨gb, hgb⟩ : ∃ b, p + 1 + 1 + 1 + 1 + 1 + 1 = b := ⟨_, rfl⟩
  rw [hgb] at b6 ⊢
  obtain ⟨mx, hmx⟩ : ∃ b, p + 1 + 1 + 1 + 1 + 1 = b := ⟨_, rfl⟩
  rw [hmx] at b5 b6 ⊢
  obtain ⟨mb, hmb⟩ : ∃ b, p + 1 + 1 + 1 + 1 = b := ⟨_, rfl⟩
  rw [hmb] at b4 b5 ⊢
  obtain ⟨pb, hpb⟩ : ∃ b, p + 1 + 1 + 1 = b := ⟨_, rfl⟩
  rw [hpb] at b3 b6 ⊢
  obtain ⟨qb, hqb⟩ : ∃ b, p + 1 + 1 = b := ⟨_, rfl⟩
  rw [hqb] at b2 b6 ⊢
  obtain ⟨nb, hnb⟩ : ∃ b, p + 1 = b := ⟨_, rfl⟩
  rw [hnb] at b1 b6 ⊢
  have hvc : VC w nb qb pb mb mx gb (p + 7) := ⟨by omega, by omega, by omega, by omega, by omega, by omega, by omega⟩
  have hV : Vth w nb qb pb mb mx gb (p + 7) W1 [] [] [] := ⟨n1, by omega, ⟨.slice none 0 0, .slice none 0 0, [], .slice none 0 0, b1, World.ownsRow_nil _ _ _ _, b2, World.ownsRow_nil _ _ _ _, b3, World.ownsRow_nil _ _ _ _, ⟨rfl, fun i t hi => by simp at hi⟩⟩, b5, b6, b4⟩
  have hcall := Lib.hid (hgat.out nb qb pb mb mx gb (p + 7) hvc W1 hV)
  have qg := cell_of_row _ _ 0 _ _ _ hV.gbox
  have z0 := cell_of_row _ _ 0 _ _ _ b0
  have z1 := cell_of_row _ _ 1 _ _ _ b0
  have z2 := cell_of_row _ _ 2 _ _ _ b0
  have z3 := cell_of_row _ _ 3 _ _ _ b0
  have z4 := cell_of_row _ _ 4 _ _ _ b0
  clear b0 b1 b2 b3 b4 b5 b6 hV hgat hgb hmx hmb hpb hqb hnb n1 hsz hvc hmm
  go_upto_region 8 with (go_at_call 35; refine (hcall.out).mono ?_; rintro r w8 ⟨rfl, h8⟩)
  obtain ⟨nv, qv, X, pv, a1, a2, a3, a4, -, -, a7⟩ := h8.row.rows
  rw [List.nil_append, List.length_map] at a2 a4
  rw [List.nil_append] at a7
  obtain ⟨nB, nc, rfl⟩ := own_slice a2
  obtain ⟨qB, qc, rfl⟩ := own_slice a4
  have hvs : VsR w8 (.slice nB TT.length TT.length) (.slice qB TT.length TT.length) TT := by
    refine ⟨by have := own_names a2 rfl hn; exact this, qB, rfl, fun i a hi => ?_⟩
    obtain ⟨v, p1, p2, -⟩ := a7.el i a.2 (by rw [List.getElem?_map, hi]; rfl)
    have hlt := (List.getElem?_eq_some_iff.1 hi).1
    obtain ⟨g, c2, he, -⟩ := own_some a4 (by omega)
    simp only [Value.slice.injEq] at he
    obtain ⟨rfl, -, rfl⟩ := he
    have hx := a7.len
    rw [List.length_map] at hx
    exact ⟨g, v, rfl, by rw [a4.cellAt _ (by omega)]; exact p1, own_intR p2⟩
  have c1 := own_clip a2
  have c2 := own_clip a4
  have hq1 := Lib.hid (fun W => (clipS nB TT.length nc c1.1 c1.2 W).mono (fun r w' h => (⟨h.1, h.2.symm⟩ : r = .returned (.slice nB TT.length TT.length) ∧ w' = W)))
  have hq2 := Lib.hid (fun W => (clipP qB TT.length qc c2.1 c2.2 W).mono (fun r w' h => (⟨h.1, h.2.symm⟩ : r = .returned (.slice qB TT.length TT.length) ∧ w' = W)))
  have t0 := cell_of_row _ _ 0 _ _ _ a1
  have t1 := cell_of_row _ _ 0 _ _ _ a3
  have hfin := Lib.hid (And.intro h8.nb0 hvs)
  clear a1 a2 a3 a4 a7 h8 hvs c1 c2 hcall qg z0 z1 z2 z3 z4
  go_quiet ((first | (go_at_call 38; exact Calls.quiet_of_same (hq1.out _)) | (go_at_call 39; exact Calls.quiet_of_same (hq2.out _))))
  have nn : Nb w8 (w8.drewN nq) := (Nb.refl w8).drewN nq
  go_wp2_with fail
  first | go_ret2 | go_ret
  exact ⟨_, _, rfl, hfin.out.1.trans nn, hfin.out.2.nb nn⟩
end Go.Proofs.Ytchcfjlkgnlnoaa

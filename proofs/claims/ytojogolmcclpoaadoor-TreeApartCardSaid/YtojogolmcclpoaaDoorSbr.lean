/-
  Proved here: of the reference: whether two lists of bodies are the same but for places. Conditions: the memory holds them.
-/
import Derived.Test.YtojogolmcclpoaaDoorSbq
namespace Go.Proofs.YtojogolmcclpoaaDoor
open Go.RowKit
set_option linter.unusedVariables false
set_option linter.unusedSimpArgs false
set_option maxRecDepth 100000
set_option maxHeartbeats 16000000
/-- A slice of bodies that the memory holds. -/
structure BdsHas (w : World) (v : Value) (l : List Bd) : Prop where
  row : RowS w 9 v (l.map Bd.cells)
  kids : ∀ x ∈ l, x.Has w
/-- What the reference tells of two lists of bodies. -/
def SmR (l : List Bd) : Prop := ∀ (W0 : World) (v : Value), BdsHas W0 v l → ∀ (m : List Bd) (v' : Value), BdsHas W0 v' m → ∀ w, Nb W0 w → Calls Tryd.prog 18 #[v, v'] w fun r w' => r = .returned (.bool (smBs l m)) ∧ Nb w w'
theorem rsmEs_any (W0 : World) (l : List Ex) (v : Value) (hv : ExsHas W0 v l) (m : List Ex) (v' : Value) (hv' : ExsHas W0 v' m) (w : World) (hw : Nb W0 w) : Calls Tryd.prog 17 #[v, v'] w fun r w' => r = .returned (.bool (smEs l m)) ∧ Nb w w' :=
  rsmE_any W0 (.mk 0 0 0 [] v l) v hv m v' hv' w hw
theorem rsmPs_any (W0 : World) (l : List Ex) (v : Value) (hv : ExsHas W0 v l) (m : List Ex) (v' : Value) (hv' : ExsHas W0 v' m) (w : World) (hw : Nb W0 w) : Calls Tryd.prog 56 #[v, v'] w fun r w' => r = .returned (.bool (smEs l m)) ∧ Nb w w' :=
  rsmT_any W0 (.mk 0 0 0 [] v l) v hv m v' hv' w hw
theorem lt_blkR {w : World} {g : Nat} {o : Obj} (h : w.heap[g]? = some o) : g < w.heap.size := (Array.getElem?_eq_some_iff.1 h).1
theorem one_exsR {w : World} {e : Ex} (h : e.Has w) {g : Nat} {t : TypeId} (hb : w.heap[g]? = some (.cells e.cells.toArray t (0, 0))) : ExsHas w (.slice (some ⟨g, 0, none⟩) 1 1) [e] := by
  refine ⟨⟨_, 1, rfl, Nat.le_refl _, by simp, (fun h => nomatch h), fun i r hi => ?_⟩, fun x hx => ?_⟩
  · cases i with
    | zero =>
      simp only [List.map_cons, List.map_nil, List.getElem?_cons_zero, Option.some.injEq] at hi
      subst hi
      refine ⟨g, 0, rfl, fun j u hu => ?_⟩
      rw [cell_of_row _ _ _ _ _ _ hb]
      simpa using hu
    | succ i => simp at hi
  · rw [List.mem_singleton] at hx
    subst hx
    exact h
theorem one_bds {w : World} {e : Bd} (h : e.Has w) {g : Nat} {t : TypeId} (hb : w.heap[g]? = some (.cells e.cells.toArray t (0, 0))) : BdsHas w (.slice (some ⟨g, 0, none⟩) 1 1) [e] := by
  refine ⟨⟨_, 1, rfl, Nat.le_refl _, by simp, (fun h => nomatch h), fun i r hi => ?_⟩, fun x hx => ?_⟩
  · cases i with
    | zero =>
      simp only [List.map_cons, List.map_nil, List.getElem?_cons_zero, Option.some.injEq] at hi
      subst hi
      refine ⟨g, 0, rfl, fun j u hu => ?_⟩
      rw [cell_of_row _ _ _ _ _ _ hb]
      simpa using hu
    | succ i => simp at hi
  · rw [List.mem_singleton] at hx
    subst hx
    exact h
theorem rsmB_step (l : List Bd) (ihp : ∀ x ∈ l, SmR x.parts) (iha : ∀ x ∈ l, ∀ a ∈ x.arms, SmR [a.body]) : SmR l := by
  intro W0 v hv m v' hv' w hw
  have hX := hv.row
  have hY := hv'.row
  obtain ⟨A0, cap0, rfl, hcap, hlenr, hz⟩ := hX.head
  obtain ⟨A1, cap1, rfl, hcap1, hlenr1, hz1⟩ := hY.head
  rw [List.length_map] at hcap hlenr hcap1 hlenr1 hX hY ⊢
  rw [List.length_map]
  have hkx := hv.kids
  have hky := hv'.kids
  replace hX := Lib.hid hX
  replace hY := Lib.hid hY
  clear hv hv'
  obtain ⟨G, hG0⟩ : ∃ G, smBs l m = G := ⟨_, rfl⟩
  rw [hG0]
  have hg := Lib.hid hG0
  clear hG0
  obtain ⟨M, hM⟩ : ∃ M, l.length = M := ⟨_, rfl⟩
  have hMh := Lib.hid hM
  rw [hM] at hX hcap hlenr ⊢
  clear hM
  obtain ⟨N, hN⟩ : ∃ N, m.length = N := ⟨_, rfl⟩
  have hNh := Lib.hid hN
  rw [hN] at hY hcap1 hlenr1 ⊢
  clear hN
  replace ihp := Lib.hid ihp
  replace iha := Lib.hid iha
  replace hkx := Lib.hid hkx
  replace hky := Lib.hid hky
  go_enter Tryd.func18, Tryd.ntmps18
  by_cases hMN : M = N
  case neg =>
    have h1 : ((M : Int) == (N : Int)) = false := beq_false_of_ne (by omega)
    have h2 : ((M : Int) != (N : Int)) = true := bne_iff_ne.2 (by omega)
    have hgf : G = false := by
      rw [← hg.out]
      exact smBs_ne (by rw [hMh.out, hNh.out]; exact hMN)
    go_wp2_with fail
    go_ret
    exact ⟨by first | (rw [hgf]; rfl) | rfl, Nb.refl _⟩
  case pos =>
  subst hMN
  go_wp2_with fail
  go_loopw [5, 6, 7, 8, 9, 10, 11, 12, 13] (fun si _ _ _ _ _ _ _ _ wr => ∃ i : Nat, i ≤ M ∧ si = .int .i64 i ∧ smBs (l.take i) (m.take i) = true ∧ Nb w wr) (fun si _ _ _ _ _ _ _ _ _ => M - (intOf si).toNat)
  case atStart => exact ⟨0, Nat.zero_le _, rfl, by simp [smBs], Nb.refl _⟩
  case round =>
    obtain ⟨i, hi2, rfl, hall, hn⟩ := hrel
    have hnb : Nb W0 wr := hw.trans hn
    by_cases hlt2 : i < M
    · have hlt3 : (i : Int) < (M : Int) := by omega
      obtain ⟨x, hx⟩ : ∃ x, l[i]? = some x := ⟨_, List.getElem?_eq_getElem (by rw [hMh.out]; exact hlt2)⟩
      obtain ⟨y, hy⟩ : ∃ y, m[i]? = some y := ⟨_, List.getElem?_eq_getElem (by rw [hNh.out]; exact hlt2)⟩
      obtain ⟨b, o, hbo, hxc⟩ := RowS.at_ hX.out (i := i) (r := x.cells) (by rw [List.getElem?_map, hx]; rfl)
      obtain rfl := hbo
      obtain ⟨b', o', hbo, hyc⟩ := RowS.at_ hY.out (i := i) (r := y.cells) (by rw [List.getElem?_map, hy]; rfl)
      obtain rfl := hbo
      have x0 := hnb.cell (hxc 0 _ rfl)
      have y0 := hnb.cell (hyc 0 _ rfl)
      have x1 := hnb.cell (hxc 1 _ rfl)
      have y1 := hnb.cell (hyc 1 _ rfl)
      have x2 := hnb.cell (hxc 2 _ rfl)
      have y2 := hnb.cell (hyc 2 _ rfl)
      have x3 := hnb.cell (hxc 3 _ rfl)
      have y3 := hnb.cell (hyc 3 _ rfl)
      have x4 := hnb.cell (hxc 4 _ rfl)
      have y4 := hnb.cell (hyc 4 _ rfl)
      have x5 := hnb.cell (hxc 5 _ rfl)
      have y5 := hnb.cell (hyc 5 _ rfl)
      have x6 := hnb.cell (hxc 6 _ rfl)
      have y6 := hnb.cell (hyc 6 _ rfl)
      have x7 := hnb.cell (hxc 7 _ rfl)
      have y7 := hnb.cell (hyc 7 _ rfl)
      have x8 := hnb.cell (hxc 8 _ rfl)
      have y8 := hnb.cell (hyc 8 _ rfl)
      rw [Nat.add_zero] at x0 y0
      have hmx := List.mem_of_getElem? hx
      have hmy := List.mem_of_getElem? hy
      have hhx := hkx.out x hmx
      have hhy := hky.out y hmy
      have cE := rsmEs_any W0 x.args x.av hhx.exs y.args y.av hhy.exs
      have cB := ihp.out x hmx W0 x.pv ⟨hhx.prow.1, hhx.prow.2⟩ y.parts y.pv ⟨hhy.prow.1, hhy.prow.2⟩
      have cA := Lib.hid (iha.out x hmx)
      have sX := hhx.srow.1
      have sY := hhy.srow.1
      have aX := hhx.mrow.1
      have aY := hhy.mrow.1
      obtain ⟨X0, xc0, hx0, -, hxl0, -⟩ := sX.head
      obtain ⟨X1, xc1, hx1, -, -, -⟩ := hhx.exs.row.head
      obtain ⟨X2, xc2, hx2, -, -, -⟩ := hhx.prow.1.head
      obtain ⟨X3, xc3, hx3, -, hxl3, -⟩ := aX.head
      obtain ⟨Y0, yc0, hy0, -, hyl0, -⟩ := sY.head
      obtain ⟨Y1, yc1, hy1, -, -, -⟩ := hhy.exs.row.head
      obtain ⟨Y2, yc2, hy2, -, -, -⟩ := hhy.prow.1.head
      obtain ⟨Y3, yc3, hy3, -, hyl3, -⟩ := aY.head
      rw [List.length_map] at hx0 hx1 hx2 hx3 hy0 hy1 hy2 hy3 hxl0 hxl3 hyl0 hyl3
      rw [hx1, hy1] at cE
      rw [hx2, hy2] at cB
      rw [hx0] at x0 sX
      rw [hx1] at x4
      rw [hx2] at x5
      rw [hx3] at x6 aX
      rw [hy0] at y0 sY
      rw [hy1] at y4
      rw [hy2] at y5
      rw [hy3] at y6 aY
      have htk := smBs_step l m i x y hx hy
      rw [hall, Bool.true_and] at htk
      have hbad := fun hb => smBs_bad hx hy hb
      rw [hg.out] at hbad
      have hsm := smB_eq x y
      have hkS := hhx.srow.2
      have hkS' := hhy.srow.2
      have hkA := hhx.mrow.2
      have hkA' := hhy.mrow.2
      obtain ⟨R1, hR1⟩ : ∃ R, smEs x.args y.args = R := ⟨_, rfl⟩
      rw [hR1] at hsm cE
      obtain ⟨R2, hR2⟩ : ∃ R, smBs x.parts y.parts = R := ⟨_, rfl⟩
      rw [hR2] at hsm cB
      obtain ⟨xk, hxk⟩ : ∃ k, x.kind = k := ⟨_, rfl⟩
      rw [hxk] at hsm x1
      obtain ⟨xa, hxa⟩ : ∃ k, x.actor = k := ⟨_, rfl⟩
      rw [hxa] at hsm x3
      obtain ⟨xt, hxt⟩ : ∃ k, x.late = k := ⟨_, rfl⟩
      rw [hxt] at hsm x7
      obtain ⟨xf, hxf⟩ : ∃ k, x.after = k := ⟨_, rfl⟩
      rw [hxf] at hsm x8
      obtain ⟨xL0, hxL0⟩ : ∃ k, x.stmts.length = k := ⟨_, rfl⟩
      rw [hxL0] at x0 sX hxl0
      replace hxL0 := Lib.hid hxL0
      obtain ⟨xL1, hxL1⟩ : ∃ k, x.args.length = k := ⟨_, rfl⟩
      rw [hxL1] at x4 cE
      clear hxL1
      obtain ⟨xL2, hxL2⟩ : ∃ k, x.parts.length = k := ⟨_, rfl⟩
      rw [hxL2] at x5 cB
      clear hxL2
      obtain ⟨xL3, hxL3⟩ : ∃ k, x.arms.length = k := ⟨_, rfl⟩
      rw [hxL3] at x6 aX hxl3
      replace hxL3 := Lib.hid hxL3
      clear hxk hxa hxt hxf
      obtain ⟨yk, hyk⟩ : ∃ k, y.kind = k := ⟨_, rfl⟩
      rw [hyk] at hsm y1
      obtain ⟨ya, hya⟩ : ∃ k, y.actor = k := ⟨_, rfl⟩
      rw [hya] at hsm y3
      obtain ⟨yt, hyt⟩ : ∃ k, y.late = k := ⟨_, rfl⟩
      rw [hyt] at hsm y7
      obtain ⟨yf, hyf⟩ : ∃ k, y.after = k := ⟨_, rfl⟩
      rw [hyf] at hsm y8
      obtain ⟨yL0, hyL0⟩ : ∃ k, y.stmts.length = k := ⟨_, rfl⟩
      rw [hyL0] at y0 sY hyl0
      replace hyL0 := Lib.hid hyL0
      obtain ⟨yL1, hyL1⟩ : ∃ k, y.args.length = k := ⟨_, rfl⟩
      rw [hyL1] at y4 cE
      clear hyL1
      obtain ⟨yL2, hyL2⟩ : ∃ k, y.parts.length = k := ⟨_, rfl⟩
      rw [hyL2] at y5 cB
      clear hyL2
      obtain ⟨yL3, hyL3⟩ : ∃ k, y.arms.length = k := ⟨_, rfl⟩
      rw [hyL3] at y6 aY hyl3
      replace hyL3 := Lib.hid hyL3
      clear hyk hya hyt hyf
      replace cE := Lib.hid cE
      replace cB := Lib.hid cB
      replace sX := Lib.hid sX
      replace sY := Lib.hid sY
      replace aX := Lib.hid aX
      replace aY := Lib.hid aY
      replace hkS := Lib.hid hkS
      replace hkS' := Lib.hid hkS'
      replace hkA := Lib.hid hkA
      replace hkA' := Lib.hid hkA'
      replace htk := Lib.hid htk
      replace hbad := Lib.hid hbad
      replace hsm := Lib.hid hsm
      clear hx hy hxc hyc hx0 hx1 hx2 hx3 hy0 hy1 hy2 hy3 hz hz1 hhx hhy hR1 hR2
      go_upto_region 7 with (fail)
      obtain ⟨W2, hW2⟩ : ∃ W2, wr.alloc (.cells #[.slice X0 xL0 xc0, .int .i64 xk, .int .i64 x.at_, sV xa, .slice X1 xL1 xc1, .slice X2 xL2 xc2, .slice X3 xL3 xc3, .bool xt, .int .i64 xf] 44) = W2 := ⟨_, rfl⟩
      have bX : W2.heap[wr.heap.size]? = some (.cells #[.slice X0 xL0 xc0, .int .i64 xk, .int .i64 x.at_, sV xa, .slice X1 xL1 xc1, .slice X2 xL2 xc2, .slice X3 xL3 xc3, .bool xt, .int .i64 xf] 44 (0, 0)) := by rw [← hW2]; exact new_blk _ _ rfl
      have n2 : Nb wr W2 := by rw [← hW2]; exact alloc_nb _ _
      rw [hW2]
      clear hW2
      obtain ⟨BX, hBX⟩ : ∃ B, wr.heap.size = B := ⟨_, rfl⟩
      rw [hBX] at bX ⊢
      clear hBX x0 x1 x2 x3 x4 x5 x6 x7 x8
      replace y0 := n2.cell y0; replace y1 := n2.cell y1; replace y2 := n2.cell y2; replace y3 := n2.cell y3; replace y4 := n2.cell y4; replace y5 := n2.cell y5; replace y6 := n2.cell y6; replace y7 := n2.cell y7; replace y8 := n2.cell y8
      go_upto_region 8 with (fail)
      obtain ⟨W3, hW3⟩ : ∃ W3, W2.alloc (.cells #[.slice Y0 yL0 yc0, .int .i64 yk, .int .i64 y.at_, sV ya, .slice Y1 yL1 yc1, .slice Y2 yL2 yc2, .slice Y3 yL3 yc3, .bool yt, .int .i64 yf] 44) = W3 := ⟨_, rfl⟩
      have bY : W3.heap[W2.heap.size]? = some (.cells #[.slice Y0 yL0 yc0, .int .i64 yk, .int .i64 y.at_, sV ya, .slice Y1 yL1 yc1, .slice Y2 yL2 yc2, .slice Y3 yL3 yc3, .bool yt, .int .i64 yf] 44 (0, 0)) := by rw [← hW3]; exact new_blk _ _ rfl
      have n3 : Nb W2 W3 := by rw [← hW3]; exact alloc_nb _ _
      rw [hW3]
      clear hW3
      obtain ⟨BY, hBY⟩ : ∃ B, W2.heap.size = B := ⟨_, rfl⟩
      rw [hBY] at bY ⊢
      clear hBY y0 y1 y2 y3 y4 y5 y6 y7 y8
      replace bX := n3.block bX
      have hn3 : Nb w W3 := hn.trans (n2.trans n3)
      have hnb3 : Nb W0 W3 := hw.trans hn3
      have p0 := cell_of_row _ _ 0 _ _ _ bX
      have q0 := cell_of_row _ _ 0 _ _ _ bY
      have p1 := cell_of_row _ _ 1 _ _ _ bX
      have q1 := cell_of_row _ _ 1 _ _ _ bY
      have p2 := cell_of_row _ _ 2 _ _ _ bX
      have q2 := cell_of_row _ _ 2 _ _ _ bY
      have p3 := cell_of_row _ _ 3 _ _ _ bX
      have q3 := cell_of_row _ _ 3 _ _ _ bY
      have p4 := cell_of_row _ _ 4 _ _ _ bX
      have q4 := cell_of_row _ _ 4 _ _ _ bY
      have p5 := cell_of_row _ _ 5 _ _ _ bX
      have q5 := cell_of_row _ _ 5 _ _ _ bY
      have p6 := cell_of_row _ _ 6 _ _ _ bX
      have q6 := cell_of_row _ _ 6 _ _ _ bY
      have p7 := cell_of_row _ _ 7 _ _ _ bX
      have q7 := cell_of_row _ _ 7 _ _ _ bY
      have p8 := cell_of_row _ _ 8 _ _ _ bX
      have q8 := cell_of_row _ _ 8 _ _ _ bY
      by_cases k_k : xk = yk
      case neg =>
        have t1 : (xk == yk) = false := beq_false_of_ne k_k
        have t2 : (xk != yk) = true := bne_iff_ne.2 k_k
        have hgf := hbad.out (by rw [hsm.out, t1]; simp)
        go_wp2_with fail
        go_ret
        exact ⟨by first | (rw [hgf]; rfl) | rfl, hn3⟩
      case pos =>
      subst k_k
      by_cases k_a : xa = ya
      case neg =>
        have t1 : (xa == ya) = false := beq_false_of_ne k_a
        have t2 : (xa != ya) = true := bne_iff_ne.2 k_a
        have t3 : ((⟨xa.toArray⟩ : ByteArray).toList == (⟨ya.toArray⟩ : ByteArray).toList) = false := by rw [bytesR_eq]; exact decide_eq_false k_a
        have t4 : ((⟨xa.toArray⟩ : ByteArray).toList != (⟨ya.toArray⟩ : ByteArray).toList) = true := by rw [bne, t3]; rfl
        have hgf := hbad.out (by rw [hsm.out, t1]; simp)
        go_wp2_with fail
        go_ret
        exact ⟨by first | (rw [hgf]; rfl) | rfl, hn3⟩
      case pos =>
      subst k_a
      by_cases k_t : xt = yt
      case neg =>
        have t1 : (xt == yt) = false := beq_false_of_ne k_t
        have t2 : (xt != yt) = true := bne_iff_ne.2 k_t
        have hgf := hbad.out (by rw [hsm.out, t1]; simp)
        go_wp2_with fail
        go_ret
        exact ⟨by first | (rw [hgf]; rfl) | rfl, hn3⟩
      case pos =>
      subst k_t
      by_cases k_f : xf = yf
      case neg =>
        have t1 : (xf == yf) = false := beq_false_of_ne k_f
        have t2 : (xf != yf) = true := bne_iff_ne.2 k_f
        have hgf := hbad.out (by rw [hsm.out, t1]; simp)
        go_wp2_with fail
        go_ret
        exact ⟨by first | (rw [hgf]; rfl) | rfl, hn3⟩
      case pos =>
      subst k_f
      replace hsm : Hid (smB x y = ((R1 && R2) && (smSs x.stmts y.stmts && smAs x.arms y.arms))) := Lib.hid (by rw [hsm.out]; simp)
      have hnX : Nb W3 W3 := Nb.refl W3
      cases R1 with
      | false =>
        have hgf := hbad.out (by rw [hsm.out]; rfl)
        go_wp2_with (first
          | (go_at_call 17; refine (cE.out _ hnb3).mono ?_; rintro r w6 ⟨rfl, g6⟩; replace hn3 := hn3.trans g6; replace hnb3 := hnb3.trans g6; replace hnX := hnX.trans g6; replace p0 := g6.cell p0; replace q0 := g6.cell q0; replace p1 := g6.cell p1; replace q1 := g6.cell q1; replace p2 := g6.cell p2; replace q2 := g6.cell q2; replace p3 := g6.cell p3; replace q3 := g6.cell q3; replace p4 := g6.cell p4; replace q4 := g6.cell q4; replace p5 := g6.cell p5; replace q5 := g6.cell q5; replace p6 := g6.cell p6; replace q6 := g6.cell q6; replace p7 := g6.cell p7; replace q7 := g6.cell q7; replace p8 := g6.cell p8; replace q8 := g6.cell q8; clear g6)
          | (go_at_call 18; refine (cB.out _ hnb3).mono ?_; rintro r w6 ⟨rfl, g6⟩; replace hn3 := hn3.trans g6; replace hnb3 := hnb3.trans g6; replace hnX := hnX.trans g6; replace p0 := g6.cell p0; replace q0 := g6.cell q0; replace p1 := g6.cell p1; replace q1 := g6.cell q1; replace p2 := g6.cell p2; replace q2 := g6.cell q2; replace p3 := g6.cell p3; replace q3 := g6.cell q3; replace p4 := g6.cell p4; replace q4 := g6.cell q4; replace p5 := g6.cell p5; replace q5 := g6.cell q5; replace p6 := g6.cell p6; replace q6 := g6.cell q6; replace p7 := g6.cell p7; replace q7 := g6.cell q7; replace p8 := g6.cell p8; replace q8 := g6.cell q8; clear g6))
        go_ret
        exact ⟨by first | (rw [hgf]; rfl) | rfl, hn3⟩
      | true =>
      cases R2 with
      | false =>
        have hgf := hbad.out (by rw [hsm.out]; rfl)
        go_wp2_with (first
          | (go_at_call 17; refine (cE.out _ hnb3).mono ?_; rintro r w6 ⟨rfl, g6⟩; replace hn3 := hn3.trans g6; replace hnb3 := hnb3.trans g6; replace hnX := hnX.trans g6; replace p0 := g6.cell p0; replace q0 := g6.cell q0; replace p1 := g6.cell p1; replace q1 := g6.cell q1; replace p2 := g6.cell p2; replace q2 := g6.cell q2; replace p3 := g6.cell p3; replace q3 := g6.cell q3; replace p4 := g6.cell p4; replace q4 := g6.cell q4; replace p5 := g6.cell p5; replace q5 := g6.cell q5; replace p6 := g6.cell p6; replace q6 := g6.cell q6; replace p7 := g6.cell p7; replace q7 := g6.cell q7; replace p8 := g6.cell p8; replace q8 := g6.cell q8; clear g6)
          | (go_at_call 18; refine (cB.out _ hnb3).mono ?_; rintro r w6 ⟨rfl, g6⟩; replace hn3 := hn3.trans g6; replace hnb3 := hnb3.trans g6; replace hnX := hnX.trans g6; replace p0 := g6.cell p0; replace q0 := g6.cell q0; replace p1 := g6.cell p1; replace q1 := g6.cell q1; replace p2 := g6.cell p2; replace q2 := g6.cell q2; replace p3 := g6.cell p3; replace q3 := g6.cell q3; replace p4 := g6.cell p4; replace q4 := g6.cell q4; replace p5 := g6.cell p5; replace q5 := g6.cell q5; replace p6 := g6.cell p6; replace q6 := g6.cell q6; replace p7 := g6.cell p7; replace q7 := g6.cell q7; replace p8 := g6.cell p8; replace q8 := g6.cell q8; clear g6))
        go_ret
        exact ⟨by first | (rw [hgf]; rfl) | rfl, hn3⟩
      | true =>
      by_cases hl0 : xL0 = yL0
      case neg =>
        have t1 : ((xL0 : Int) == (yL0 : Int)) = false := beq_false_of_ne (by omega)
        have t2 : ((xL0 : Int) != (yL0 : Int)) = true := bne_iff_ne.2 (by omega)
        have hgf := hbad.out (by rw [hsm.out, smSs_ne (by rw [hxL0.out, hyL0.out]; exact hl0)]; rfl)
        go_wp2_with (first
          | (go_at_call 17; refine (cE.out _ hnb3).mono ?_; rintro r w6 ⟨rfl, g6⟩; replace hn3 := hn3.trans g6; replace hnb3 := hnb3.trans g6; replace hnX := hnX.trans g6; replace p0 := g6.cell p0; replace q0 := g6.cell q0; replace p1 := g6.cell p1; replace q1 := g6.cell q1; replace p2 := g6.cell p2; replace q2 := g6.cell q2; replace p3 := g6.cell p3; replace q3 := g6.cell q3; replace p4 := g6.cell p4; replace q4 := g6.cell q4; replace p5 := g6.cell p5; replace q5 := g6.cell q5; replace p6 := g6.cell p6; replace q6 := g6.cell q6; replace p7 := g6.cell p7; replace q7 := g6.cell q7; replace p8 := g6.cell p8; replace q8 := g6.cell q8; clear g6)
          | (go_at_call 18; refine (cB.out _ hnb3).mono ?_; rintro r w6 ⟨rfl, g6⟩; replace hn3 := hn3.trans g6; replace hnb3 := hnb3.trans g6; replace hnX := hnX.trans g6; replace p0 := g6.cell p0; replace q0 := g6.cell q0; replace p1 := g6.cell p1; replace q1 := g6.cell q1; replace p2 := g6.cell p2; replace q2 := g6.cell q2; replace p3 := g6.cell p3; replace q3 := g6.cell q3; replace p4 := g6.cell p4; replace q4 := g6.cell q4; replace p5 := g6.cell p5; replace q5 := g6.cell q5; replace p6 := g6.cell p6; replace q6 := g6.cell q6; replace p7 := g6.cell p7; replace q7 := g6.cell q7; replace p8 := g6.cell p8; replace q8 := g6.cell q8; clear g6))
        go_ret
        exact ⟨by first | (rw [hgf]; rfl) | rfl, hn3⟩
      case pos =>
      subst hl0
      by_cases hl3 : xL3 = yL3
      case neg =>
        have t1 : ((xL3 : Int) == (yL3 : Int)) = false := beq_false_of_ne (by omega)
        have t2 : ((xL3 : Int) != (yL3 : Int)) = true := bne_iff_ne.2 (by omega)
        have hgf := hbad.out (by rw [hsm.out, smAs_ne (by rw [hxL3.out, hyL3.out]; exact hl3)]; simp)
        go_wp2_with (first
          | (go_at_call 17; refine (cE.out _ hnb3).mono ?_; rintro r w6 ⟨rfl, g6⟩; replace hn3 := hn3.trans g6; replace hnb3 := hnb3.trans g6; replace hnX := hnX.trans g6; replace p0 := g6.cell p0; replace q0 := g6.cell q0; replace p1 := g6.cell p1; replace q1 := g6.cell q1; replace p2 := g6.cell p2; replace q2 := g6.cell q2; replace p3 := g6.cell p3; replace q3 := g6.cell q3; replace p4 := g6.cell p4; replace q4 := g6.cell q4; replace p5 := g6.cell p5; replace q5 := g6.cell q5; replace p6 := g6.cell p6; replace q6 := g6.cell q6; replace p7 := g6.cell p7; replace q7 := g6.cell q7; replace p8 := g6.cell p8; replace q8 := g6.cell q8; clear g6)
          | (go_at_call 18; refine (cB.out _ hnb3).mono ?_; rintro r w6 ⟨rfl, g6⟩; replace hn3 := hn3.trans g6; replace hnb3 := hnb3.trans g6; replace hnX := hnX.trans g6; replace p0 := g6.cell p0; replace q0 := g6.cell q0; replace p1 := g6.cell p1; replace q1 := g6.cell q1; replace p2 := g6.cell p2; replace q2 := g6.cell q2; replace p3 := g6.cell p3; replace q3 := g6.cell q3; replace p4 := g6.cell p4; replace q4 := g6.cell q4; replace p5 := g6.cell p5; replace q5 := g6.cell q5; replace p6 := g6.cell p6; replace q6 := g6.cell q6; replace p7 := g6.cell p7; replace q7 := g6.cell q7; replace p8 := g6.cell p8; replace q8 := g6.cell q8; clear g6))
        go_ret
        exact ⟨by first | (rw [hgf]; rfl) | rfl, hn3⟩
      case pos =>
      subst hl3
      replace hsm : Hid (smB x y = (smSs x.stmts y.stmts && smAs x.arms y.arms)) := Lib.hid (by rw [hsm.out]; simp)
      go_wp2_with (first
          | (go_at_call 17; refine (cE.out _ hnb3).mono ?_; rintro r w6 ⟨rfl, g6⟩; replace hn3 := hn3.trans g6; replace hnb3 := hnb3.trans g6; replace hnX := hnX.trans g6; replace p0 := g6.cell p0; replace q0 := g6.cell q0; replace p1 := g6.cell p1; replace q1 := g6.cell q1; replace p2 := g6.cell p2; replace q2 := g6.cell q2; replace p3 := g6.cell p3; replace q3 := g6.cell q3; replace p4 := g6.cell p4; replace q4 := g6.cell q4; replace p5 := g6.cell p5; replace q5 := g6.cell q5; replace p6 := g6.cell p6; replace q6 := g6.cell q6; replace p7 := g6.cell p7; replace q7 := g6.cell q7; replace p8 := g6.cell p8; replace q8 := g6.cell q8; clear g6)
          | (go_at_call 18; refine (cB.out _ hnb3).mono ?_; rintro r w6 ⟨rfl, g6⟩; replace hn3 := hn3.trans g6; replace hnb3 := hnb3.trans g6; replace hnX := hnX.trans g6; replace p0 := g6.cell p0; replace q0 := g6.cell q0; replace p1 := g6.cell p1; replace q1 := g6.cell q1; replace p2 := g6.cell p2; replace q2 := g6.cell q2; replace p3 := g6.cell p3; replace q3 := g6.cell q3; replace p4 := g6.cell p4; replace q4 := g6.cell q4; replace p5 := g6.cell p5; replace q5 := g6.cell q5; replace p6 := g6.cell p6; replace q6 := g6.cell q6; replace p7 := g6.cell p7; replace q7 := g6.cell q7; replace p8 := g6.cell p8; replace q8 := g6.cell q8; clear g6))
      go_loopw [8, 9, 10] (fun sj _ _ wr => ∃ j : Nat, j ≤ xL0 ∧ sj = .int .i64 j ∧ smSs (x.stmts.take j) (y.stmts.take j) = true ∧ Nb W3 wr) (fun sj _ _ _ => xL0 - (intOf sj).toNat)
      case atStart => exact ⟨0, Nat.zero_le _, rfl, by simp [smSs], hnX⟩
      case round =>
        clear p0 q0 p1 q1 p2 q2 p3 q3 p4 q4 p5 q5 p6 q6 p7 q7 p8 q8 hn3 hnb3 hnX
        obtain ⟨j, hj2, rfl, hall2, hnX⟩ := hrel
        have dX := hnX.block bX
        have dY := hnX.block bY
        have p0 := cell_of_row _ _ 0 _ _ _ dX
        have p6 := cell_of_row _ _ 6 _ _ _ dX
        have q0 := cell_of_row _ _ 0 _ _ _ dY
        have q6 := cell_of_row _ _ 6 _ _ _ dY
        have hn3 : Nb w wr := hn.trans (n2.trans (n3.trans hnX))
        have hnb3 : Nb W0 wr := hw.trans hn3
        by_cases hlt4 : j < xL0
        · have hlt5 : (j : Int) < (xL0 : Int) := by omega
          obtain ⟨s, hs⟩ : ∃ s, x.stmts[j]? = some s := ⟨_, List.getElem?_eq_getElem (by rw [hxL0.out]; exact hlt4)⟩
          obtain ⟨s', hs'⟩ : ∃ s, y.stmts[j]? = some s := ⟨_, List.getElem?_eq_getElem (by rw [hyL0.out]; exact hlt4)⟩
          obtain ⟨sb, so, hbo, hsc⟩ := RowS.at_ sX.out (i := j) (r := s.cells) (by rw [List.getElem?_map, hs]; rfl)
          obtain rfl := hbo
          obtain ⟨sb', so', hbo, hsc'⟩ := RowS.at_ sY.out (i := j) (r := s'.cells) (by rw [List.getElem?_map, hs']; rfl)
          obtain rfl := hbo
          have u0 := hnb3.cell (hsc 0 _ rfl)
          have v0 := hnb3.cell (hsc' 0 _ rfl)
          have u1 := hnb3.cell (hsc 1 _ rfl)
          have v1 := hnb3.cell (hsc' 1 _ rfl)
          have u2 := hnb3.cell (hsc 2 _ rfl)
          have v2 := hnb3.cell (hsc' 2 _ rfl)
          have u3 := hnb3.cell (hsc 3 _ rfl)
          have v3 := hnb3.cell (hsc' 3 _ rfl)
          have u4 := hnb3.cell (hsc 4 _ rfl)
          have v4 := hnb3.cell (hsc' 4 _ rfl)
          rw [Nat.add_zero] at u0 v0
          have hms := hkS.out s (List.mem_of_getElem? hs)
          have hms' := hkS'.out s' (List.mem_of_getElem? hs')
          have cS := rsmEs_any W0 s.args s.av hms.args s'.args s'.av hms'.args
          obtain ⟨U, uc, hu, -, -, -⟩ := hms.args.row.head
          obtain ⟨V, vc, hv, -, -, -⟩ := hms'.args.row.head
          rw [List.length_map] at hu hv
          rw [hu, hv] at cS
          rw [hu] at u4
          rw [hv] at v4
          have htk2 := smSs_step x.stmts y.stmts j s s' hs hs'
          rw [hall2, Bool.true_and] at htk2
          have hbad2 : smS s s' = false → G = false := fun h => hbad.out (by rw [hsm.out, smSs_bad hs hs' h]; rfl)
          have hsS : smS s s' = (((s.kind == s'.kind) && ((s.name == s'.name) && (s.actor == s'.actor))) && smEs s.args s'.args) := rfl
          obtain ⟨R3, hR3⟩ : ∃ R, smEs s.args s'.args = R := ⟨_, rfl⟩
          rw [hR3] at hsS cS
          obtain ⟨uk, huk⟩ : ∃ k, s.kind = k := ⟨_, rfl⟩
          rw [huk] at hsS u0
          obtain ⟨un, hun⟩ : ∃ k, s.name = k := ⟨_, rfl⟩
          rw [hun] at hsS u2
          obtain ⟨ua, hua⟩ : ∃ k, s.actor = k := ⟨_, rfl⟩
          rw [hua] at hsS u3
          obtain ⟨uL, huL⟩ : ∃ k, s.args.length = k := ⟨_, rfl⟩
          rw [huL] at cS u4
          clear huL huk hun hua
          obtain ⟨vk, hvk⟩ : ∃ k, s'.kind = k := ⟨_, rfl⟩
          rw [hvk] at hsS v0
          obtain ⟨vn, hvn⟩ : ∃ k, s'.name = k := ⟨_, rfl⟩
          rw [hvn] at hsS v2
          obtain ⟨va, hva⟩ : ∃ k, s'.actor = k := ⟨_, rfl⟩
          rw [hva] at hsS v3
          obtain ⟨vL, hvL⟩ : ∃ k, s'.args.length = k := ⟨_, rfl⟩
          rw [hvL] at cS v4
          clear hvL hvk hvn hva
          replace cS := Lib.hid cS
          replace htk2 := Lib.hid htk2
          replace hbad2 := Lib.hid hbad2
          replace hsS := Lib.hid hsS
          clear hs hs' hsc hsc' hu hv hR3 hms hms' p6 q6
          go_upto_region 14 with (fail)
          obtain ⟨W4, hW4⟩ : ∃ W, wr.alloc (.cells #[.int .i64 uk, .int .i64 s.at_, sV un, sV ua, .slice U uL uc] 39) = W := ⟨_, rfl⟩
          have eX : W4.heap[wr.heap.size]? = some (.cells #[.int .i64 uk, .int .i64 s.at_, sV un, sV ua, .slice U uL uc] 39 (0, 0)) := by rw [← hW4]; exact new_blk _ _ rfl
          have n4 : Nb wr W4 := by rw [← hW4]; exact alloc_nb _ _
          rw [hW4]
          clear hW4
          obtain ⟨EX, hEX⟩ : ∃ B, wr.heap.size = B := ⟨_, rfl⟩
          rw [hEX] at eX ⊢
          clear hEX u0 u1 u2 u3 u4
          replace v0 := n4.cell v0; replace v1 := n4.cell v1; replace v2 := n4.cell v2; replace v3 := n4.cell v3; replace v4 := n4.cell v4
          replace q0 := n4.cell q0
          go_upto_region 15 with (fail)
          obtain ⟨W5, hW5⟩ : ∃ W, W4.alloc (.cells #[.int .i64 vk, .int .i64 s'.at_, sV vn, sV va, .slice V vL vc] 39) = W := ⟨_, rfl⟩
          have eY : W5.heap[W4.heap.size]? = some (.cells #[.int .i64 vk, .int .i64 s'.at_, sV vn, sV va, .slice V vL vc] 39 (0, 0)) := by rw [← hW5]; exact new_blk _ _ rfl
          have n5 : Nb W4 W5 := by rw [← hW5]; exact alloc_nb _ _
          rw [hW5]
          clear hW5
          obtain ⟨EY, hEY⟩ : ∃ B, W4.heap.size = B := ⟨_, rfl⟩
          rw [hEY] at eY ⊢
          clear hEY v0 v1 v2 v3 v4
          replace eX := n5.block eX
          have hn5 : Nb w W5 := hn3.trans (n4.trans n5)
          have hnb5 : Nb W0 W5 := hw.trans hn5
          have hnX5 : Nb W3 W5 := hnX.trans (n4.trans n5)
          have u0 := cell_of_row _ _ 0 _ _ _ eX
          have v0 := cell_of_row _ _ 0 _ _ _ eY
          have u1 := cell_of_row _ _ 1 _ _ _ eX
          have v1 := cell_of_row _ _ 1 _ _ _ eY
          have u2 := cell_of_row _ _ 2 _ _ _ eX
          have v2 := cell_of_row _ _ 2 _ _ _ eY
          have u3 := cell_of_row _ _ 3 _ _ _ eX
          have v3 := cell_of_row _ _ 3 _ _ _ eY
          have u4 := cell_of_row _ _ 4 _ _ _ eX
          have v4 := cell_of_row _ _ 4 _ _ _ eY
          by_cases k_k : uk = vk
          case neg =>
            have t1 : (uk == vk) = false := beq_false_of_ne k_k
            have t2 : (uk != vk) = true := bne_iff_ne.2 k_k
            have hgf := hbad2.out (by rw [hsS.out, t1]; rfl)
            go_wp2_with fail
            go_ret
            exact ⟨by first | (rw [hgf]; rfl) | rfl, hn5⟩
          case pos =>
          subst k_k
          by_cases k_n : un = vn
          case neg =>
            have t1 : (un == vn) = false := beq_false_of_ne k_n
            have t3 : ((⟨un.toArray⟩ : ByteArray).toList == (⟨vn.toArray⟩ : ByteArray).toList) = false := by rw [bytesR_eq]; exact decide_eq_false k_n
            have t4 : ((⟨un.toArray⟩ : ByteArray).toList != (⟨vn.toArray⟩ : ByteArray).toList) = true := by rw [bne, t3]; rfl
            have hgf := hbad2.out (by rw [hsS.out, t1]; simp)
            go_wp2_with fail
            go_ret
            exact ⟨by first | (rw [hgf]; rfl) | rfl, hn5⟩
          case pos =>
          subst k_n
          by_cases k_a : ua = va
          case neg =>
            have t1 : (ua == va) = false := beq_false_of_ne k_a
            have t3 : ((⟨ua.toArray⟩ : ByteArray).toList == (⟨va.toArray⟩ : ByteArray).toList) = false := by rw [bytesR_eq]; exact decide_eq_false k_a
            have t4 : ((⟨ua.toArray⟩ : ByteArray).toList != (⟨va.toArray⟩ : ByteArray).toList) = true := by rw [bne, t3]; rfl
            have hgf := hbad2.out (by rw [hsS.out, t1]; simp)
            go_wp2_with fail
            go_ret
            exact ⟨by first | (rw [hgf]; rfl) | rfl, hn5⟩
          case pos =>
          subst k_a
          replace hsS : Hid (smS s s' = R3) := Lib.hid (by rw [hsS.out]; simp)
          rw [hsS.out] at htk2 hbad2
          cases R3 with
          | false =>
            have hgf := hbad2.out rfl
            go_wp2_with (go_at_call 17; refine (cS.out _ hnb5).mono ?_; rintro r w6 ⟨rfl, g6⟩)
            go_ret
            exact ⟨by first | (rw [hgf]; rfl) | rfl, hn5.trans g6⟩
          | true =>
            go_wp2_with (go_at_call 17; refine (cS.out _ hnb5).mono ?_; rintro r w6 ⟨rfl, g6⟩)
            exact ⟨⟨j + 1, by omega, by simp, htk2.out, hnX5.trans g6⟩, by simp [intOf] <;> omega⟩
        · obtain rfl : j = xL0 := by omega
          have hfS : smSs x.stmts y.stmts = true := by
            rw [← hall2]
            congr 1
            · rw [← hxL0.out, List.take_length]
            · rw [← hyL0.out, List.take_length]
          replace hsm : Hid (smB x y = smAs x.arms y.arms) := Lib.hid (by rw [hsm.out, hfS]; rfl)
          go_wp2_with fail
          go_loopw [11, 12, 13] (fun sj _ _ wr => ∃ j : Nat, j ≤ xL3 ∧ sj = .int .i64 j ∧ smAs (x.arms.take j) (y.arms.take j) = true ∧ Nb W3 wr) (fun sj _ _ _ => xL3 - (intOf sj).toNat)
          case atStart => exact ⟨0, Nat.zero_le _, rfl, by simp [smAs], hnX⟩
          case round =>
            clear p0 p6 q0 q6 hn3 hnb3 hnX dX dY hall2
            obtain ⟨j, hj2, rfl, hall2, hnX⟩ := hrel
            have dX := hnX.block bX
            have dY := hnX.block bY
            have p6 := cell_of_row _ _ 6 _ _ _ dX
            have q6 := cell_of_row _ _ 6 _ _ _ dY
            have hn3 : Nb w wr := hn.trans (n2.trans (n3.trans hnX))
            have hnb3 : Nb W0 wr := hw.trans hn3
            by_cases hlt4 : j < xL3
            · have hlt5 : (j : Int) < (xL3 : Int) := by omega
              obtain ⟨s, hs⟩ : ∃ s, x.arms[j]? = some s := ⟨_, List.getElem?_eq_getElem (by rw [hxL3.out]; exact hlt4)⟩
              obtain ⟨s', hs'⟩ : ∃ s, y.arms[j]? = some s := ⟨_, List.getElem?_eq_getElem (by rw [hyL3.out]; exact hlt4)⟩
              obtain ⟨sb, so, hbo, hsc⟩ := RowS.at_ aX.out (i := j) (r := s.cells) (by rw [List.getElem?_map, hs]; rfl)
              obtain rfl := hbo
              obtain ⟨sb', so', hbo, hsc'⟩ := RowS.at_ aY.out (i := j) (r := s'.cells) (by rw [List.getElem?_map, hs']; rfl)
              obtain rfl := hbo
              have u0 := hnb3.cell (hsc 0 _ rfl)
              have v0 := hnb3.cell (hsc' 0 _ rfl)
              have u1 := hnb3.cell (hsc 1 _ rfl)
              have v1 := hnb3.cell (hsc' 1 _ rfl)
              have u2 := hnb3.cell (hsc 2 _ rfl)
              have v2 := hnb3.cell (hsc' 2 _ rfl)
              have u3 := hnb3.cell (hsc 3 _ rfl)
              have v3 := hnb3.cell (hsc' 3 _ rfl)
              have u4 := hnb3.cell (hsc 4 _ rfl)
              have v4 := hnb3.cell (hsc' 4 _ rfl)
              have u5 := hnb3.cell (hsc 5 _ rfl)
              have v5 := hnb3.cell (hsc' 5 _ rfl)
              have u6 := hnb3.cell (hsc 6 _ rfl)
              have v6 := hnb3.cell (hsc' 6 _ rfl)
              have u7 := hnb3.cell (hsc 7 _ rfl)
              have v7 := hnb3.cell (hsc' 7 _ rfl)
              have u8 := hnb3.cell (hsc 8 _ rfl)
              have v8 := hnb3.cell (hsc' 8 _ rfl)
              have u9 := hnb3.cell (hsc 9 _ rfl)
              have v9 := hnb3.cell (hsc' 9 _ rfl)
              have u10 := hnb3.cell (hsc 10 _ rfl)
              have v10 := hnb3.cell (hsc' 10 _ rfl)
              have u11 := hnb3.cell (hsc 11 _ rfl)
              have v11 := hnb3.cell (hsc' 11 _ rfl)
              have u12 := hnb3.cell (hsc 12 _ rfl)
              have v12 := hnb3.cell (hsc' 12 _ rfl)
              have u13 := hnb3.cell (hsc 13 _ rfl)
              have v13 := hnb3.cell (hsc' 13 _ rfl)
              have u14 := hnb3.cell (hsc 14 _ rfl)
              have v14 := hnb3.cell (hsc' 14 _ rfl)
              rw [Nat.add_zero] at u0 v0
              have hmem := List.mem_of_getElem? hs
              have hms := hkA.out s hmem
              have hms' := hkA'.out s' (List.mem_of_getElem? hs')
              have cG := rsmEs_any W0 s.guard s.gv hms.2.1 s'.guard s'.gv hms'.2.1
              have cP : ∀ (w : World) (g g' : Nat) (t t' : TypeId), Nb W0 w → w.heap[g]? = some (.cells s.pat.cells.toArray t (0, 0)) → w.heap[g']? = some (.cells s'.pat.cells.toArray t' (0, 0)) → Calls Tryd.prog 56 #[.slice (some ⟨g, 0, none⟩) 1 1, .slice (some ⟨g', 0, none⟩) 1 1] w fun r w' => r = .returned (.bool (smE s.pat s'.pat)) ∧ Nb w w' := fun w g g' t t' hw h h' => by
                have h2 := rsmPs_any w [s.pat] _ (one_exsR (hms.1.nb hw) h) [s'.pat] _ (one_exsR (hms'.1.nb hw) h') w (Nb.refl w)
                rw [show smEs [s.pat] [s'.pat] = smE s.pat s'.pat by simp [smEs]] at h2
                exact h2
              have cD : ∀ (w : World) (g g' : Nat) (t t' : TypeId), Nb W0 w → w.heap[g]? = some (.cells s.body.cells.toArray t (0, 0)) → w.heap[g']? = some (.cells s'.body.cells.toArray t' (0, 0)) → Calls Tryd.prog 18 #[.slice (some ⟨g, 0, none⟩) 1 1, .slice (some ⟨g', 0, none⟩) 1 1] w fun r w' => r = .returned (.bool (smB s.body s'.body)) ∧ Nb w w' := fun w g g' t t' hw h h' => by
                have h2 := cA.out s hmem w _ (one_bds (hms.2.2.nb hw) h) [s'.body] _ (one_bds (hms'.2.2.nb hw) h') w (Nb.refl w)
                rw [show smBs [s.body] [s'.body] = smB s.body s'.body by simp [smBs]] at h2
                exact h2
              obtain ⟨uP, uPc, huP, -, -, -⟩ := hms.1.exs.row.head
              rw [List.length_map] at huP
              rw [huP] at u4
              obtain ⟨uPL, huPL⟩ : ∃ k, s.pat.args.length = k := ⟨_, rfl⟩
              rw [huPL] at huP u4
              obtain ⟨uQ, uQc, huQ, -, -, -⟩ := hms.2.1.row.head
              rw [List.length_map] at huQ
              rw [huQ] at u5
              obtain ⟨uQL, huQL⟩ : ∃ k, s.guard.length = k := ⟨_, rfl⟩
              rw [huQL] at huQ u5
              obtain ⟨uA, uAc, huA, -, -, -⟩ := hms.2.2.srow.1.head
              rw [List.length_map] at huA
              rw [huA] at u6
              obtain ⟨uAL, huAL⟩ : ∃ k, s.body.stmts.length = k := ⟨_, rfl⟩
              rw [huAL] at huA u6
              obtain ⟨uB, uBc, huB, -, -, -⟩ := hms.2.2.exs.row.head
              rw [List.length_map] at huB
              rw [huB] at u10
              obtain ⟨uBL, huBL⟩ : ∃ k, s.body.args.length = k := ⟨_, rfl⟩
              rw [huBL] at huB u10
              obtain ⟨uC, uCc, huC, -, -, -⟩ := hms.2.2.prow.1.head
              rw [List.length_map] at huC
              rw [huC] at u11
              obtain ⟨uCL, huCL⟩ : ∃ k, s.body.parts.length = k := ⟨_, rfl⟩
              rw [huCL] at huC u11
              obtain ⟨uD, uDc, huD, -, -, -⟩ := hms.2.2.mrow.1.head
              rw [List.length_map] at huD
              rw [huD] at u12
              obtain ⟨uDL, huDL⟩ : ∃ k, s.body.arms.length = k := ⟨_, rfl⟩
              rw [huDL] at huD u12
              rw [huQ] at cG
              rw [show s.pat.cells = [.int .i64 s.pat.kind, .int .i64 s.pat.at_, .int .i64 s.pat.n, sV s.pat.name, s.pat.av] from rfl, huP] at cP
              rw [show s.body.cells = [s.body.sv, .int .i64 s.body.kind, .int .i64 s.body.at_, sV s.body.actor, s.body.av, s.body.pv, s.body.mv, .bool s.body.late, .int .i64 s.body.after] from rfl, huA, huB, huC, huD] at cD
              clear huP huPL huQ huQL huA huAL huB huBL huC huCL huD huDL
              obtain ⟨vP, vPc, hvP, -, -, -⟩ := hms'.1.exs.row.head
              rw [List.length_map] at hvP
              rw [hvP] at v4
              obtain ⟨vPL, hvPL⟩ : ∃ k, s'.pat.args.length = k := ⟨_, rfl⟩
              rw [hvPL] at hvP v4
              obtain ⟨vQ, vQc, hvQ, -, -, -⟩ := hms'.2.1.row.head
              rw [List.length_map] at hvQ
              rw [hvQ] at v5
              obtain ⟨vQL, hvQL⟩ : ∃ k, s'.guard.length = k := ⟨_, rfl⟩
              rw [hvQL] at hvQ v5
              obtain ⟨vA, vAc, hvA, -, -, -⟩ := hms'.2.2.srow.1.head
              rw [List.length_map] at hvA
              rw [hvA] at v6
              obtain ⟨vAL, hvAL⟩ : ∃ k, s'.body.stmts.length = k := ⟨_, rfl⟩
              rw [hvAL] at hvA v6
              obtain ⟨vB, vBc, hvB, -, -, -⟩ := hms'.2.2.exs.row.head
              rw [List.length_map] at hvB
              rw [hvB] at v10
              obtain ⟨vBL, hvBL⟩ : ∃ k, s'.body.args.length = k := ⟨_, rfl⟩
              rw [hvBL] at hvB v10
              obtain ⟨vC, vCc, hvC, -, -, -⟩ := hms'.2.2.prow.1.head
              rw [List.length_map] at hvC
              rw [hvC] at v11
              obtain ⟨vCL, hvCL⟩ : ∃ k, s'.body.parts.length = k := ⟨_, rfl⟩
              rw [hvCL] at hvC v11
              obtain ⟨vD, vDc, hvD, -, -, -⟩ := hms'.2.2.mrow.1.head
              rw [List.length_map] at hvD
              rw [hvD] at v12
              obtain ⟨vDL, hvDL⟩ : ∃ k, s'.body.arms.length = k := ⟨_, rfl⟩
              rw [hvDL] at hvD v12
              rw [hvQ] at cG
              rw [show s'.pat.cells = [.int .i64 s'.pat.kind, .int .i64 s'.pat.at_, .int .i64 s'.pat.n, sV s'.pat.name, s'.pat.av] from rfl, hvP] at cP
              rw [show s'.body.cells = [s'.body.sv, .int .i64 s'.body.kind, .int .i64 s'.body.at_, sV s'.body.actor, s'.body.av, s'.body.pv, s'.body.mv, .bool s'.body.late, .int .i64 s'.body.after] from rfl, hvA, hvB, hvC, hvD] at cD
              clear hvP hvPL hvQ hvQL hvA hvAL hvB hvBL hvC hvCL hvD hvDL
              have htk2 := smAs_step x.arms y.arms j s s' hs hs'
              rw [hall2, Bool.true_and] at htk2
              have hbad2 : smA s s' = false → G = false := fun h => hbad.out (by rw [hsm.out, smAs_bad hs hs' h])
              have hsS := smA_eq s s'
              obtain ⟨R4, hR4⟩ : ∃ R, smE s.pat s'.pat = R := ⟨_, rfl⟩
              rw [hR4] at hsS cP
              obtain ⟨R5, hR5⟩ : ∃ R, smEs s.guard s'.guard = R := ⟨_, rfl⟩
              rw [hR5] at hsS cG
              obtain ⟨R6, hR6⟩ : ∃ R, smB s.body s'.body = R := ⟨_, rfl⟩
              rw [hR6] at hsS cD
              replace cG := Lib.hid cG
              replace cP := Lib.hid cP
              replace cD := Lib.hid cD
              rw [hsS] at htk2 hbad2
              replace htk2 := Lib.hid htk2
              replace hbad2 := Lib.hid hbad2
              clear hs hs' hsc hsc' hR4 hR5 hR6 hms hms' hsS
              go_upto_region 21 with (fail)
              obtain ⟨W4, hW4⟩ : ∃ W, wr.alloc (.cells #[.int .i64 s.pat.kind, .int .i64 s.pat.at_, .int .i64 s.pat.n, sV s.pat.name, .slice uP uPL uPc, .slice uQ uQL uQc, .slice uA uAL uAc, .int .i64 s.body.kind, .int .i64 s.body.at_, sV s.body.actor, .slice uB uBL uBc, .slice uC uCL uCc, .slice uD uDL uDc, .bool s.body.late, .int .i64 s.body.after] 78) = W := ⟨_, rfl⟩
              have eX : W4.heap[wr.heap.size]? = some (.cells #[.int .i64 s.pat.kind, .int .i64 s.pat.at_, .int .i64 s.pat.n, sV s.pat.name, .slice uP uPL uPc, .slice uQ uQL uQc, .slice uA uAL uAc, .int .i64 s.body.kind, .int .i64 s.body.at_, sV s.body.actor, .slice uB uBL uBc, .slice uC uCL uCc, .slice uD uDL uDc, .bool s.body.late, .int .i64 s.body.after] 78 (0, 0)) := by rw [← hW4]; exact new_blk _ _ rfl
              have n4 : Nb wr W4 := by rw [← hW4]; exact alloc_nb _ _
              rw [hW4]
              clear hW4
              obtain ⟨EX, hEX⟩ : ∃ B, wr.heap.size = B := ⟨_, rfl⟩
              rw [hEX] at eX ⊢
              clear hEX u0 u1 u2 u3 u4 u5 u6 u7 u8 u9 u10 u11 u12 u13 u14
              replace v0 := n4.cell v0; replace v1 := n4.cell v1; replace v2 := n4.cell v2; replace v3 := n4.cell v3; replace v4 := n4.cell v4; replace v5 := n4.cell v5; replace v6 := n4.cell v6; replace v7 := n4.cell v7; replace v8 := n4.cell v8; replace v9 := n4.cell v9; replace v10 := n4.cell v10; replace v11 := n4.cell v11; replace v12 := n4.cell v12; replace v13 := n4.cell v13; replace v14 := n4.cell v14
              replace q6 := n4.cell q6
              go_upto_region 22 with (fail)
              obtain ⟨W5, hW5⟩ : ∃ W, W4.alloc (.cells #[.int .i64 s'.pat.kind, .int .i64 s'.pat.at_, .int .i64 s'.pat.n, sV s'.pat.name, .slice vP vPL vPc, .slice vQ vQL vQc, .slice vA vAL vAc, .int .i64 s'.body.kind, .int .i64 s'.body.at_, sV s'.body.actor, .slice vB vBL vBc, .slice vC vCL vCc, .slice vD vDL vDc, .bool s'.body.late, .int .i64 s'.body.after] 78) = W := ⟨_, rfl⟩
              have eY : W5.heap[W4.heap.size]? = some (.cells #[.int .i64 s'.pat.kind, .int .i64 s'.pat.at_, .int .i64 s'.pat.n, sV s'.pat.name, .slice vP vPL vPc, .slice vQ vQL vQc, .slice vA vAL vAc, .int .i64 s'.body.kind, .int .i64 s'.body.at_, sV s'.body.actor, .slice vB vBL vBc, .slice vC vCL vCc, .slice vD vDL vDc, .bool s'.body.late, .int .i64 s'.body.after] 78 (0, 0)) := by rw [← hW5]; exact new_blk _ _ rfl
              have n5 : Nb W4 W5 := by rw [← hW5]; exact alloc_nb _ _
              rw [hW5]
              clear hW5
              obtain ⟨EY, hEY⟩ : ∃ B, W4.heap.size = B := ⟨_, rfl⟩
              rw [hEY] at eY ⊢
              clear hEY v0 v1 v2 v3 v4 v5 v6 v7 v8 v9 v10 v11 v12 v13 v14
              replace eX := n5.block eX
              have hn5 : Nb w W5 := hn3.trans (n4.trans n5)
              have hnb5 : Nb W0 W5 := hw.trans hn5
              have hnX5 : Nb W3 W5 := hnX.trans (n4.trans n5)
              have lX : EX < W5.heap.size := lt_blkR eX
              have lY : EY < W5.heap.size := lt_blkR eY
              have u0 := cell_of_row _ _ 0 _ _ _ eX
              have v0 := cell_of_row _ _ 0 _ _ _ eY
              have u1 := cell_of_row _ _ 1 _ _ _ eX
              have v1 := cell_of_row _ _ 1 _ _ _ eY
              have u2 := cell_of_row _ _ 2 _ _ _ eX
              have v2 := cell_of_row _ _ 2 _ _ _ eY
              have u3 := cell_of_row _ _ 3 _ _ _ eX
              have v3 := cell_of_row _ _ 3 _ _ _ eY
              have u4 := cell_of_row _ _ 4 _ _ _ eX
              have v4 := cell_of_row _ _ 4 _ _ _ eY
              have u5 := cell_of_row _ _ 5 _ _ _ eX
              have v5 := cell_of_row _ _ 5 _ _ _ eY
              have u6 := cell_of_row _ _ 6 _ _ _ eX
              have v6 := cell_of_row _ _ 6 _ _ _ eY
              have u7 := cell_of_row _ _ 7 _ _ _ eX
              have v7 := cell_of_row _ _ 7 _ _ _ eY
              have u8 := cell_of_row _ _ 8 _ _ _ eX
              have v8 := cell_of_row _ _ 8 _ _ _ eY
              have u9 := cell_of_row _ _ 9 _ _ _ eX
              have v9 := cell_of_row _ _ 9 _ _ _ eY
              have u10 := cell_of_row _ _ 10 _ _ _ eX
              have v10 := cell_of_row _ _ 10 _ _ _ eY
              have u11 := cell_of_row _ _ 11 _ _ _ eX
              have v11 := cell_of_row _ _ 11 _ _ _ eY
              have u12 := cell_of_row _ _ 12 _ _ _ eX
              have v12 := cell_of_row _ _ 12 _ _ _ eY
              have u13 := cell_of_row _ _ 13 _ _ _ eX
              have v13 := cell_of_row _ _ 13 _ _ _ eY
              have u14 := cell_of_row _ _ 14 _ _ _ eX
              have v14 := cell_of_row _ _ 14 _ _ _ eY
              cases R4 with
              | false =>
                have hgf := hbad2.out rfl
                go_wp2_with (go_at_call 56; refine (cP.out _ _ _ _ _ ((hnb5.trans (alloc_nb _ _)).trans (alloc_nb _ _)) (old_blk (new_blk _ _ rfl) _) (new_blk _ _ (by first | rfl | simp))).mono ?_; rintro r w6 ⟨rfl, g6⟩; have m6 : Nb W5 w6 := ((alloc_nb _ _).trans (alloc_nb _ _)).trans g6; replace u5 := m6.cell u5; replace v5 := m6.cell v5; replace u6 := m6.cell u6; replace v6 := m6.cell v6; replace u7 := m6.cell u7; replace v7 := m6.cell v7; replace u8 := m6.cell u8; replace v8 := m6.cell v8; replace u9 := m6.cell u9; replace v9 := m6.cell v9; replace u10 := m6.cell u10; replace v10 := m6.cell v10; replace u11 := m6.cell u11; replace v11 := m6.cell v11; replace u12 := m6.cell u12; replace v12 := m6.cell v12; replace u13 := m6.cell u13; replace v13 := m6.cell v13; replace u14 := m6.cell u14; replace v14 := m6.cell v14; have hn6 := hn5.trans m6; have hnb6 := hnb5.trans m6; have hX6 := hnX5.trans m6; have lX6 : EX < w6.heap.size := Nat.lt_of_lt_of_le lX m6.size; have lY6 : EY < w6.heap.size := Nat.lt_of_lt_of_le lY m6.size)
                go_ret
                exact ⟨by first | (rw [hgf]; rfl) | rfl, hn6⟩
              | true =>
              cases R5 with
              | false =>
                have hgf := hbad2.out rfl
                go_wp2_with (first
                  | (go_at_call 56; refine (cP.out _ _ _ _ _ ((hnb5.trans (alloc_nb _ _)).trans (alloc_nb _ _)) (old_blk (new_blk _ _ rfl) _) (new_blk _ _ (by first | rfl | simp))).mono ?_; rintro r w6 ⟨rfl, g6⟩; have m6 : Nb W5 w6 := ((alloc_nb _ _).trans (alloc_nb _ _)).trans g6; replace u5 := m6.cell u5; replace v5 := m6.cell v5; replace u6 := m6.cell u6; replace v6 := m6.cell v6; replace u7 := m6.cell u7; replace v7 := m6.cell v7; replace u8 := m6.cell u8; replace v8 := m6.cell v8; replace u9 := m6.cell u9; replace v9 := m6.cell v9; replace u10 := m6.cell u10; replace v10 := m6.cell v10; replace u11 := m6.cell u11; replace v11 := m6.cell v11; replace u12 := m6.cell u12; replace v12 := m6.cell v12; replace u13 := m6.cell u13; replace v13 := m6.cell v13; replace u14 := m6.cell u14; replace v14 := m6.cell v14; have hn6 := hn5.trans m6; have hnb6 := hnb5.trans m6; have hX6 := hnX5.trans m6; have lX6 : EX < w6.heap.size := Nat.lt_of_lt_of_le lX m6.size; have lY6 : EY < w6.heap.size := Nat.lt_of_lt_of_le lY m6.size)
                  | (go_at_call 17; refine (cG.out _ hnb6).mono ?_; rintro r w7 ⟨rfl, g7⟩; replace u6 := g7.cell u6; replace v6 := g7.cell v6; replace u7 := g7.cell u7; replace v7 := g7.cell v7; replace u8 := g7.cell u8; replace v8 := g7.cell v8; replace u9 := g7.cell u9; replace v9 := g7.cell v9; replace u10 := g7.cell u10; replace v10 := g7.cell v10; replace u11 := g7.cell u11; replace v11 := g7.cell v11; replace u12 := g7.cell u12; replace v12 := g7.cell v12; replace u13 := g7.cell u13; replace v13 := g7.cell v13; replace u14 := g7.cell u14; replace v14 := g7.cell v14; have hn7 := hn6.trans g7; have hnb7 := hnb6.trans g7; have hX7 := hX6.trans g7; have lX7 : EX < w7.heap.size := Nat.lt_of_lt_of_le lX6 g7.size; have lY7 : EY < w7.heap.size := Nat.lt_of_lt_of_le lY6 g7.size))
                go_ret
                exact ⟨by first | (rw [hgf]; rfl) | rfl, hn7⟩
              | true =>
              cases R6 with
              | false =>
                have hgf := hbad2.out rfl
                go_wp2_with (first
                  | (go_at_call 56; refine (cP.out _ _ _ _ _ ((hnb5.trans (alloc_nb _ _)).trans (alloc_nb _ _)) (old_blk (new_blk _ _ rfl) _) (new_blk _ _ (by first | rfl | simp))).mono ?_; rintro r w6 ⟨rfl, g6⟩; have m6 : Nb W5 w6 := ((alloc_nb _ _).trans (alloc_nb _ _)).trans g6; replace u5 := m6.cell u5; replace v5 := m6.cell v5; replace u6 := m6.cell u6; replace v6 := m6.cell v6; replace u7 := m6.cell u7; replace v7 := m6.cell v7; replace u8 := m6.cell u8; replace v8 := m6.cell v8; replace u9 := m6.cell u9; replace v9 := m6.cell v9; replace u10 := m6.cell u10; replace v10 := m6.cell v10; replace u11 := m6.cell u11; replace v11 := m6.cell v11; replace u12 := m6.cell u12; replace v12 := m6.cell v12; replace u13 := m6.cell u13; replace v13 := m6.cell v13; replace u14 := m6.cell u14; replace v14 := m6.cell v14; have hn6 := hn5.trans m6; have hnb6 := hnb5.trans m6; have hX6 := hnX5.trans m6; have lX6 : EX < w6.heap.size := Nat.lt_of_lt_of_le lX m6.size; have lY6 : EY < w6.heap.size := Nat.lt_of_lt_of_le lY m6.size)
                  | (go_at_call 17; refine (cG.out _ hnb6).mono ?_; rintro r w7 ⟨rfl, g7⟩; replace u6 := g7.cell u6; replace v6 := g7.cell v6; replace u7 := g7.cell u7; replace v7 := g7.cell v7; replace u8 := g7.cell u8; replace v8 := g7.cell v8; replace u9 := g7.cell u9; replace v9 := g7.cell v9; replace u10 := g7.cell u10; replace v10 := g7.cell v10; replace u11 := g7.cell u11; replace v11 := g7.cell v11; replace u12 := g7.cell u12; replace v12 := g7.cell v12; replace u13 := g7.cell u13; replace v13 := g7.cell v13; replace u14 := g7.cell u14; replace v14 := g7.cell v14; have hn7 := hn6.trans g7; have hnb7 := hnb6.trans g7; have hX7 := hX6.trans g7; have lX7 : EX < w7.heap.size := Nat.lt_of_lt_of_le lX6 g7.size; have lY7 : EY < w7.heap.size := Nat.lt_of_lt_of_le lY6 g7.size)
                  | (go_at_call 18; refine (cD.out _ _ _ _ _ ((hnb7.trans (alloc_nb _ _)).trans (alloc_nb _ _)) (old_blk (new_blk _ _ rfl) _) (new_blk _ _ (by first | rfl | simp))).mono ?_; rintro r w8 ⟨rfl, g8⟩; have m8 : Nb w7 w8 := ((alloc_nb _ _).trans (alloc_nb _ _)).trans g8; have hn8 := hn7.trans m8; have hX8 := hX7.trans m8))
                go_ret
                exact ⟨by first | (rw [hgf]; rfl) | rfl, hn8⟩
              | true =>
                go_wp2_with (first
                  | (go_at_call 56; refine (cP.out _ _ _ _ _ ((hnb5.trans (alloc_nb _ _)).trans (alloc_nb _ _)) (old_blk (new_blk _ _ rfl) _) (new_blk _ _ (by first | rfl | simp))).mono ?_; rintro r w6 ⟨rfl, g6⟩; have m6 : Nb W5 w6 := ((alloc_nb _ _).trans (alloc_nb _ _)).trans g6; replace u5 := m6.cell u5; replace v5 := m6.cell v5; replace u6 := m6.cell u6; replace v6 := m6.cell v6; replace u7 := m6.cell u7; replace v7 := m6.cell v7; replace u8 := m6.cell u8; replace v8 := m6.cell v8; replace u9 := m6.cell u9; replace v9 := m6.cell v9; replace u10 := m6.cell u10; replace v10 := m6.cell v10; replace u11 := m6.cell u11; replace v11 := m6.cell v11; replace u12 := m6.cell u12; replace v12 := m6.cell v12; replace u13 := m6.cell u13; replace v13 := m6.cell v13; replace u14 := m6.cell u14; replace v14 := m6.cell v14; have hn6 := hn5.trans m6; have hnb6 := hnb5.trans m6; have hX6 := hnX5.trans m6; have lX6 : EX < w6.heap.size := Nat.lt_of_lt_of_le lX m6.size; have lY6 : EY < w6.heap.size := Nat.lt_of_lt_of_le lY m6.size)
                  | (go_at_call 17; refine (cG.out _ hnb6).mono ?_; rintro r w7 ⟨rfl, g7⟩; replace u6 := g7.cell u6; replace v6 := g7.cell v6; replace u7 := g7.cell u7; replace v7 := g7.cell v7; replace u8 := g7.cell u8; replace v8 := g7.cell v8; replace u9 := g7.cell u9; replace v9 := g7.cell v9; replace u10 := g7.cell u10; replace v10 := g7.cell v10; replace u11 := g7.cell u11; replace v11 := g7.cell v11; replace u12 := g7.cell u12; replace v12 := g7.cell v12; replace u13 := g7.cell u13; replace v13 := g7.cell v13; replace u14 := g7.cell u14; replace v14 := g7.cell v14; have hn7 := hn6.trans g7; have hnb7 := hnb6.trans g7; have hX7 := hX6.trans g7; have lX7 : EX < w7.heap.size := Nat.lt_of_lt_of_le lX6 g7.size; have lY7 : EY < w7.heap.size := Nat.lt_of_lt_of_le lY6 g7.size)
                  | (go_at_call 18; refine (cD.out _ _ _ _ _ ((hnb7.trans (alloc_nb _ _)).trans (alloc_nb _ _)) (old_blk (new_blk _ _ rfl) _) (new_blk _ _ (by first | rfl | simp))).mono ?_; rintro r w8 ⟨rfl, g8⟩; have m8 : Nb w7 w8 := ((alloc_nb _ _).trans (alloc_nb _ _)).trans g8; have hn8 := hn7.trans m8; have hX8 := hX7.trans m8))
                exact ⟨⟨j + 1, by omega, by simp, htk2.out, hX8⟩, by simp [intOf] <;> omega⟩
            · obtain rfl : j = xL3 := by omega
              have hfA : smAs x.arms y.arms = true := by
                rw [← hall2]
                congr 1
                · rw [← hxL3.out, List.take_length]
                · rw [← hyL3.out, List.take_length]
              have htt : (smBs (l.take (i + 1)) (m.take (i + 1))) = true := by rw [htk.out, hsm.out, hfA]
              replace htt := Lib.hid htt
              go_wp2_with fail
              exact ⟨⟨i + 1, by omega, by simp, htt.out, hn3⟩, by simp [intOf] <;> omega⟩
    · obtain rfl : i = M := by omega
      have hfull : G = true := by
        rw [← hg.out, ← hall]
        congr 1
        · rw [← hMh.out, List.take_length]
        · rw [← hNh.out, List.take_length]
      go_wp2_with fail
      go_ret
      exact ⟨by first | (rw [hfull]; rfl) | rfl, hn⟩
end Go.Proofs.YtojogolmcclpoaaDoor

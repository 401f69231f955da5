/-
  Proved here: of the reference: whether two lists of expressions are the same but for places. Conditions: the memory holds them.
-/
import Derived.Test.YtojogolmcclpoaaDoorSaa
import Derived.Test.YtojogolmcclpoaaDoorSat
import Derived.Test.YtojogolmcclpoaaDoorSan
import Derived.Deep.QuietTactic
import Derived.BigQuiet
namespace Go.Proofs.YtojogolmcclpoaaDoor
open Go.RowKit
set_option linter.unusedVariables false
set_option linter.unusedSimpArgs false
set_option maxRecDepth 100000
set_option maxHeartbeats 4000000
mutual
/-- The same but for places and memory. -/
def smE : Ex → Ex → Bool
  | .mk k a n s v l, e => ((k == e.kind) && ((n == e.n) && (s == e.name))) && smEs l e.args
def smEs : List Ex → List Ex → Bool
  | [], [] => true
  | x :: l, y :: m => smE x y && smEs l m
  | _, _ => false
end
theorem smE_eq (e f : Ex) : smE e f = (((e.kind == f.kind) && ((e.n == f.n) && (e.name == f.name))) && smEs e.args f.args) := by
  cases e with
  | mk k a n s v l => rw [smE]; rfl
theorem smEs_len : ∀ l m : List Ex, smEs l m = true → l.length = m.length
  | [], [], _ => rfl
  | [], _ :: _, h => by rw [smEs] at h <;> simp_all
  | _ :: _, [], h => by rw [smEs] at h <;> simp_all
  | x :: l, y :: m, h => by
    rw [smEs, Bool.and_eq_true] at h
    rw [List.length_cons, List.length_cons, smEs_len l m h.2]
theorem smEs_step : ∀ (l m : List Ex) (i : Nat) (x y : Ex), l[i]? = some x → m[i]? = some y → smEs (l.take (i + 1)) (m.take (i + 1)) = (smEs (l.take i) (m.take i) && smE x y)
  | [], _, i, _, _, h, _ => by simp at h
  | _ :: _, [], i, _, _, _, h => by simp at h
  | a :: l, b :: m, 0, x, y, h, h' => by
    simp at h h'
    subst h h'
    simp [smEs]
  | a :: l, b :: m, i + 1, x, y, h, h' => by
    simp only [List.getElem?_cons_succ] at h h'
    rw [List.take_succ_cons, List.take_succ_cons, List.take_succ_cons, List.take_succ_cons, smEs, smEs, smEs_step l m i x y h h', Bool.and_assoc]
theorem smEs_bad {l m : List Ex} {i : Nat} {x y : Ex} (h : l[i]? = some x) (h' : m[i]? = some y) (hb : smE x y = false) : smEs l m = false := by
  induction i generalizing l m with
  | zero =>
    cases l with
    | nil => simp at h
    | cons a l =>
      cases m with
      | nil => simp at h'
      | cons b m =>
        simp at h h'
        subst h h'
        rw [smEs, hb, Bool.false_and]
  | succ i ih =>
    cases l with
    | nil => simp at h
    | cons a l =>
      cases m with
      | nil => simp at h'
      | cons b m =>
        simp only [List.getElem?_cons_succ] at h h'
        rw [smEs, ih h h', Bool.and_false]
theorem bytesR_eq (a b : Bs) : ((⟨a.toArray⟩ : ByteArray).toList == (⟨b.toArray⟩ : ByteArray).toList) = decide (a = b) := by
  rw [ByteArray.toList_eq, ByteArray.toList_eq]
  show (a == b) = _
  by_cases h : a = b
  · simp [h]
  · simp [h]
theorem drew1R {a b : World} (h : Nb a b) : Nb a b.drew := h.drewN 1
theorem rsmE_any (W0 : World) : ∀ e : Ex, ∀ (v : Value), ExsHas W0 v e.args → ∀ (m : List Ex) (v' : Value), ExsHas W0 v' m → ∀ w, Nb W0 w → Calls Tryd.prog 17 #[v, v'] w fun r w' => r = .returned (.bool (smEs e.args m)) ∧ Nb w w' := by
  intro e
  induction e using Ex.ind
  rename_i e ih
  intro v hv m v' hv' w hw
  have hX := hv.row
  have hY := hv'.row
  obtain ⟨A0, cap0, rfl, hcap, hlenr, hz⟩ := hX.head
  obtain ⟨A1, cap1, rfl, hcap1, hlenr1, hz1⟩ := hY.head
  rw [List.length_map] at hcap hlenr hcap1 hlenr1 hX hY ⊢
  rw [List.length_map]
  have hkx := hv.kids
  have hky := hv'.kids
  replace hX := Lib.hid hX
  replace hY := Lib.hid hY
  obtain ⟨l, hl⟩ : ∃ l, e.args = l := ⟨_, rfl⟩
  rw [hl] at ih hX hkx hcap hlenr ⊢
  clear hl hv hv'
  obtain ⟨G, hG0⟩ : ∃ G, smEs l m = G := ⟨_, rfl⟩
  rw [hG0]
  have hg := Lib.hid hG0
  clear hG0
  obtain ⟨M, hM⟩ : ∃ M, l.length = M := ⟨_, rfl⟩
  have hMh := Lib.hid hM
  rw [hM] at hX hcap hlenr ⊢
  clear hM
  obtain ⟨N, hN⟩ : ∃ N, m.length = N := ⟨_, rfl⟩
  have hNh := Lib.hid hN
  rw [hN] at hY hcap1 hlenr1 ⊢
  clear hN
  replace ih := Lib.hid ih
  replace hkx := Lib.hid hkx
  replace hky := Lib.hid hky
  go_enter Tryd.func17, Tryd.ntmps17
  by_cases hMN : M = N
  case neg =>
    have h1 : ((M : Int) == (N : Int)) = false := beq_false_of_ne (by omega)
    have h2 : ((M : Int) != (N : Int)) = true := bne_iff_ne.2 (by omega)
    have hgf : G = false := by
      rw [← hg.out, ← Bool.not_eq_true]
      intro h
      have := smEs_len l m h
      rw [hMh.out, hNh.out] at this
      exact hMN this
    go_wp2_with fail
    go_ret
    exact ⟨by first | (rw [hgf]; rfl) | rfl, Nb.refl _⟩
  case pos =>
  subst hMN
  go_wp2_with fail
  go_loopw [5] (fun si wr => ∃ i : Nat, i ≤ M ∧ si = .int .i64 i ∧ smEs (l.take i) (m.take i) = true ∧ Nb w wr) (fun si _ => M - (intOf si).toNat)
  case atStart => exact ⟨0, Nat.zero_le _, rfl, by simp [smEs], Nb.refl _⟩
  case round =>
    obtain ⟨i, hi2, rfl, hall, hn⟩ := hrel
    have hnb : Nb W0 wr := hw.trans hn
    by_cases hlt2 : i < M
    · have hlt3 : (i : Int) < (M : Int) := by omega
      obtain ⟨x, hx⟩ : ∃ x, l[i]? = some x := ⟨_, List.getElem?_eq_getElem (by rw [hMh.out]; exact hlt2)⟩
      obtain ⟨y, hy⟩ : ∃ y, m[i]? = some y := ⟨_, List.getElem?_eq_getElem (by rw [hNh.out]; exact hlt2)⟩
      obtain ⟨b, o, hbo, hxc⟩ := RowS.at_ hX.out (i := i) (r := x.cells) (by rw [List.getElem?_map, hx]; rfl)
      obtain rfl := hbo
      obtain ⟨b', o', hbo, hyc⟩ := RowS.at_ hY.out (i := i) (r := y.cells) (by rw [List.getElem?_map, hy]; rfl)
      obtain rfl := hbo
      have x0 := hnb.cell (hxc 0 _ rfl)
      have y0 := hnb.cell (hyc 0 _ rfl)
      have x1 := hnb.cell (hxc 1 _ rfl)
      have y1 := hnb.cell (hyc 1 _ rfl)
      have x2 := hnb.cell (hxc 2 _ rfl)
      have y2 := hnb.cell (hyc 2 _ rfl)
      have x3 := hnb.cell (hxc 3 _ rfl)
      have y3 := hnb.cell (hyc 3 _ rfl)
      have x4 := hnb.cell (hxc 4 _ rfl)
      have y4 := hnb.cell (hyc 4 _ rfl)
      rw [Nat.add_zero] at x0 y0
      have hmx := List.mem_of_getElem? hx
      have hmy := List.mem_of_getElem? hy
      obtain ⟨Ax, cx, hvx, -, -, -⟩ := (hkx.out x hmx).exs.row.head
      obtain ⟨Ay, cy, hvy, -, -, -⟩ := (hky.out y hmy).exs.row.head
      rw [List.length_map] at hvx hvy
      have hcall := ih.out x hmx x.av (hkx.out x hmx).exs y.args y.av (hky.out y hmy).exs
      rw [hvx, hvy] at hcall
      rw [hvx] at x4
      rw [hvy] at y4
      have htk := smEs_step l m i x y hx hy
      rw [hall, Bool.true_and] at htk
      have hbad := fun hb => smEs_bad hx hy hb
      rw [hg.out] at hbad
      have hsm := smE_eq x y
      obtain ⟨R, hR⟩ : ∃ R, smEs x.args y.args = R := ⟨_, rfl⟩
      rw [hR] at hsm hcall
      obtain ⟨Lx, hLx⟩ : ∃ L, x.args.length = L := ⟨_, rfl⟩
      obtain ⟨Ly, hLy⟩ : ∃ L, y.args.length = L := ⟨_, rfl⟩
      rw [hLx] at x4 hcall
      rw [hLy] at y4 hcall
      obtain ⟨xk, hxk⟩ : ∃ k, x.kind = k := ⟨_, rfl⟩
      obtain ⟨xn, hxn⟩ : ∃ k, x.n = k := ⟨_, rfl⟩
      obtain ⟨xs, hxs⟩ : ∃ k, x.name = k := ⟨_, rfl⟩
      obtain ⟨yk, hyk⟩ : ∃ k, y.kind = k := ⟨_, rfl⟩
      obtain ⟨yn, hyn⟩ : ∃ k, y.n = k := ⟨_, rfl⟩
      obtain ⟨ys, hys⟩ : ∃ k, y.name = k := ⟨_, rfl⟩
      rw [hxk, hxn, hxs, hyk, hyn, hys] at hsm
      rw [hxk] at x0
      rw [hxn] at x2
      rw [hxs] at x3
      rw [hyk] at y0
      rw [hyn] at y2
      rw [hys] at y3
      replace hcall := Lib.hid hcall
      replace htk := Lib.hid htk
      replace hbad := Lib.hid hbad
      replace hsm := Lib.hid hsm
      clear hx hy hxc hyc hvx hvy hR hLx hLy hxk hxn hxs hyk hyn hys hz hz1
      by_cases k1 : xk = yk
      case neg =>
        have t1 : (xk == yk) = false := beq_false_of_ne k1
        have t2 : (xk != yk) = true := bne_iff_ne.2 k1
        have hgf := hbad.out (by rw [hsm.out, t1]; rfl)
        go_upto_region 6 with (fail)
        go_quiet (fail)
        go_wp2_with fail
        go_ret
        exact ⟨by first | (rw [hgf]; rfl) | rfl, hn.drewN _⟩
      case pos =>
      subst k1
      by_cases k2 : xn = yn
      case neg =>
        have t1 : (xn == yn) = false := beq_false_of_ne k2
        have t2 : (xn != yn) = true := bne_iff_ne.2 k2
        have hgf := hbad.out (by rw [hsm.out, t1]; simp)
        go_upto_region 6 with (fail)
        go_quiet (fail)
        go_wp2_with fail
        go_ret
        exact ⟨by first | (rw [hgf]; rfl) | rfl, hn.drewN _⟩
      case pos =>
      subst k2
      by_cases k3 : xs = ys
      case neg =>
        have t1 : (xs == ys) = false := beq_false_of_ne k3
        have t3 : ((⟨xs.toArray⟩ : ByteArray).toList == (⟨ys.toArray⟩ : ByteArray).toList) = false := by rw [bytesR_eq]; exact decide_eq_false k3
        have t2 : ((⟨xs.toArray⟩ : ByteArray).toList != (⟨ys.toArray⟩ : ByteArray).toList) = true := by rw [bne, t3]; rfl
        have hgf := hbad.out (by rw [hsm.out, t1]; simp)
        go_upto_region 6 with (fail)
        go_quiet (fail)
        go_wp2_with fail
        go_ret
        exact ⟨by first | (rw [hgf]; rfl) | rfl, hn.drewN _⟩
      case pos =>
      subst k3
      replace hsm : Hid (smE x y = R) := Lib.hid (by rw [hsm.out]; simp)
      rw [hsm.out] at htk hbad
      go_upto_region 6 with (fail)
      have hG : Nb wr wr.drew := drew1R (Nb.refl wr)
      refine wp_region_late [] (fun _ => True) (fun w' => Nb wr w') (by kernel_rfl) ⟨fun _ => trivial, hG⟩ (fun _ => ?_)
      change wpAnyL _ _ _ _ _ _ _ 51 (List.toArray [false, false, false, false, false, false, false, false, false, false, false, false, false, false, false, false, false, false, false, false, false, false, false, false, false, false, false, false, false, false, false, false, false, false, false, false, false, false, false, false, false, false, false, false, false, false, false, false, false, false, false]) _ _
      refine takeG_l (i := 0) (v := .slice (some ⟨b, o, none⟩) M cap0) rfl (by kernel_rfl) (by kernel_rfl) (by kernel_rfl) (by rfl) (fun _ _ _ h => h) (.inl ⟨by rfl, by intro w' hw; go_simp⟩) ⟨fun _ => trivial, hG⟩ ?_
      simp only [Act.put, List.setIfInBounds_toArray, List.set_cons_zero, List.set_cons_succ]
      refine takeG_l (i := 1) (v := .int .i64 (i : Int)) rfl (by kernel_rfl) (by kernel_rfl) (by kernel_rfl) (by rfl) (fun _ _ _ h => h) (.inl ⟨by rfl, by intro w' hw; go_simp⟩) ⟨fun _ => trivial, hG⟩ ?_
      simp only [Act.put, List.setIfInBounds_toArray, List.set_cons_zero, List.set_cons_succ]
      refine takeG_l (i := 2) (v := .pointer (some ⟨b, o + i * 5, none⟩)) rfl (by kernel_rfl) (by kernel_rfl) (by kernel_rfl) (by rfl) (fun _ _ _ h => h) (.inl ⟨by rfl, by intro w' hw; go_simp⟩) ⟨fun _ => trivial, hG⟩ ?_
      simp only [Act.put, List.setIfInBounds_toArray, List.set_cons_zero, List.set_cons_succ]
      refine takeG_l (i := 3) (v := .pointer (some ⟨b, o + i * 5, none⟩)) rfl (by kernel_rfl) (by kernel_rfl) (by kernel_rfl) (by rfl) (fun _ _ _ h => h) (.inl ⟨by rfl, by intro w' hw; go_simp⟩) ⟨fun _ => trivial, hG⟩ ?_
      simp only [Act.put, List.setIfInBounds_toArray, List.set_cons_zero, List.set_cons_succ]
      refine takeG_l (i := 4) (v := .int .i64 xk) rfl (by kernel_rfl) (by kernel_rfl) (by kernel_rfl) (by rfl) (fun _ _ _ h => h) (.inl ⟨by rfl, by intro w' hw; have hc := hw.cell x0; go_simp⟩) ⟨fun _ => trivial, hG⟩ ?_
      simp only [Act.put, List.setIfInBounds_toArray, List.set_cons_zero, List.set_cons_succ]
      refine takeG_l (i := 5) (v := .slice (some ⟨b', o', none⟩) M cap1) rfl (by kernel_rfl) (by kernel_rfl) (by kernel_rfl) (by rfl) (fun _ _ _ h => h) (.inl ⟨by rfl, by intro w' hw; go_simp⟩) ⟨fun _ => trivial, hG⟩ ?_
      simp only [Act.put, List.setIfInBounds_toArray, List.set_cons_zero, List.set_cons_succ]
      refine takeG_l (i := 6) (v := .int .i64 (i : Int)) rfl (by kernel_rfl) (by kernel_rfl) (by kernel_rfl) (by rfl) (fun _ _ _ h => h) (.inl ⟨by rfl, by intro w' hw; go_simp⟩) ⟨fun _ => trivial, hG⟩ ?_
      simp only [Act.put, List.setIfInBounds_toArray, List.set_cons_zero, List.set_cons_succ]
      refine takeG_l (i := 7) (v := .pointer (some ⟨b', o' + i * 5, none⟩)) rfl (by kernel_rfl) (by kernel_rfl) (by kernel_rfl) (by rfl) (fun _ _ _ h => h) (.inl ⟨by rfl, by intro w' hw; go_simp⟩) ⟨fun _ => trivial, hG⟩ ?_
      simp only [Act.put, List.setIfInBounds_toArray, List.set_cons_zero, List.set_cons_succ]
      refine takeG_l (i := 8) (v := .pointer (some ⟨b', o' + i * 5, none⟩)) rfl (by kernel_rfl) (by kernel_rfl) (by kernel_rfl) (by rfl) (fun _ _ _ h => h) (.inl ⟨by rfl, by intro w' hw; go_simp⟩) ⟨fun _ => trivial, hG⟩ ?_
      simp only [Act.put, List.setIfInBounds_toArray, List.set_cons_zero, List.set_cons_succ]
      refine takeG_l (i := 9) (v := .int .i64 xk) rfl (by kernel_rfl) (by kernel_rfl) (by kernel_rfl) (by rfl) (fun _ _ _ h => h) (.inl ⟨by rfl, by intro w' hw; have hc := hw.cell y0; go_simp⟩) ⟨fun _ => trivial, hG⟩ ?_
      simp only [Act.put, List.setIfInBounds_toArray, List.set_cons_zero, List.set_cons_succ]
      refine takeG_l (i := 10) (v := .bool false) rfl (by kernel_rfl) (by kernel_rfl) (by kernel_rfl) (by rfl) (fun _ _ _ h => h) (.inl ⟨by rfl, by intro w' hw; go_simp⟩) ⟨fun _ => trivial, hG⟩ ?_
      simp only [Act.put, List.setIfInBounds_toArray, List.set_cons_zero, List.set_cons_succ]
      refine takeG_l (i := 11) (v := .bool false) rfl (by kernel_rfl) (by kernel_rfl) (by kernel_rfl) (by rfl) (fun _ _ _ h => h) (.inl ⟨by rfl, by intro w' hw; go_simp⟩) ⟨fun _ => trivial, hG⟩ ?_
      simp only [Act.put, List.setIfInBounds_toArray, List.set_cons_zero, List.set_cons_succ]
      refine takeG_l (i := 12) (v := .slice (some ⟨b, o, none⟩) M cap0) rfl (by kernel_rfl) (by kernel_rfl) (by kernel_rfl) (by rfl) (fun _ _ _ h => h) (.inl ⟨by rfl, by intro w' hw; go_simp⟩) ⟨fun _ => trivial, hG⟩ ?_
      simp only [Act.put, List.setIfInBounds_toArray, List.set_cons_zero, List.set_cons_succ]
      refine takeG_l (i := 13) (v := .int .i64 (i : Int)) rfl (by kernel_rfl) (by kernel_rfl) (by kernel_rfl) (by rfl) (fun _ _ _ h => h) (.inl ⟨by rfl, by intro w' hw; go_simp⟩) ⟨fun _ => trivial, hG⟩ ?_
      simp only [Act.put, List.setIfInBounds_toArray, List.set_cons_zero, List.set_cons_succ]
      refine takeG_l (i := 14) (v := .pointer (some ⟨b, o + i * 5, none⟩)) rfl (by kernel_rfl) (by kernel_rfl) (by kernel_rfl) (by rfl) (fun _ _ _ h => h) (.inl ⟨by rfl, by intro w' hw; go_simp⟩) ⟨fun _ => trivial, hG⟩ ?_
      simp only [Act.put, List.setIfInBounds_toArray, List.set_cons_zero, List.set_cons_succ]
      refine takeG_l (i := 15) (v := .pointer (some ⟨b, o + i * 5 + 2, none⟩)) rfl (by kernel_rfl) (by kernel_rfl) (by kernel_rfl) (by rfl) (fun _ _ _ h => h) (.inl ⟨by rfl, by intro w' hw; go_simp⟩) ⟨fun _ => trivial, hG⟩ ?_
      simp only [Act.put, List.setIfInBounds_toArray, List.set_cons_zero, List.set_cons_succ]
      refine takeG_l (i := 16) (v := .int .i64 xn) rfl (by kernel_rfl) (by kernel_rfl) (by kernel_rfl) (by rfl) (fun _ _ _ h => h) (.inl ⟨by rfl, by intro w' hw; have hc := hw.cell x2; go_simp⟩) ⟨fun _ => trivial, hG⟩ ?_
      simp only [Act.put, List.setIfInBounds_toArray, List.set_cons_zero, List.set_cons_succ]
      refine takeG_l (i := 17) (v := .slice (some ⟨b', o', none⟩) M cap1) rfl (by kernel_rfl) (by kernel_rfl) (by kernel_rfl) (by rfl) (fun _ _ _ h => h) (.inl ⟨by rfl, by intro w' hw; go_simp⟩) ⟨fun _ => trivial, hG⟩ ?_
      simp only [Act.put, List.setIfInBounds_toArray, List.set_cons_zero, List.set_cons_succ]
      refine takeG_l (i := 18) (v := .int .i64 (i : Int)) rfl (by kernel_rfl) (by kernel_rfl) (by kernel_rfl) (by rfl) (fun _ _ _ h => h) (.inl ⟨by rfl, by intro w' hw; go_simp⟩) ⟨fun _ => trivial, hG⟩ ?_
      simp only [Act.put, List.setIfInBounds_toArray, List.set_cons_zero, List.set_cons_succ]
      refine takeG_l (i := 19) (v := .pointer (some ⟨b', o' + i * 5, none⟩)) rfl (by kernel_rfl) (by kernel_rfl) (by kernel_rfl) (by rfl) (fun _ _ _ h => h) (.inl ⟨by rfl, by intro w' hw; go_simp⟩) ⟨fun _ => trivial, hG⟩ ?_
      simp only [Act.put, List.setIfInBounds_toArray, List.set_cons_zero, List.set_cons_succ]
      refine takeG_l (i := 20) (v := .pointer (some ⟨b', o' + i * 5 + 2, none⟩)) rfl (by kernel_rfl) (by kernel_rfl) (by kernel_rfl) (by rfl) (fun _ _ _ h => h) (.inl ⟨by rfl, by intro w' hw; go_simp⟩) ⟨fun _ => trivial, hG⟩ ?_
      simp only [Act.put, List.setIfInBounds_toArray, List.set_cons_zero, List.set_cons_succ]
      refine takeG_l (i := 21) (v := .int .i64 xn) rfl (by kernel_rfl) (by kernel_rfl) (by kernel_rfl) (by rfl) (fun _ _ _ h => h) (.inl ⟨by rfl, by intro w' hw; have hc := hw.cell y2; go_simp⟩) ⟨fun _ => trivial, hG⟩ ?_
      simp only [Act.put, List.setIfInBounds_toArray, List.set_cons_zero, List.set_cons_succ]
      refine takeG_l (i := 22) (v := .bool false) rfl (by kernel_rfl) (by kernel_rfl) (by kernel_rfl) (by rfl) (fun _ _ _ h => h) (.inl ⟨by rfl, by intro w' hw; go_simp⟩) ⟨fun _ => trivial, hG⟩ ?_
      simp only [Act.put, List.setIfInBounds_toArray, List.set_cons_zero, List.set_cons_succ]
      refine takeG_l (i := 23) (v := .bool false) rfl (by kernel_rfl) (by kernel_rfl) (by kernel_rfl) (by rfl) (fun _ _ _ h => h) (.inl ⟨by rfl, by intro w' hw; go_simp⟩) ⟨fun _ => trivial, hG⟩ ?_
      simp only [Act.put, List.setIfInBounds_toArray, List.set_cons_zero, List.set_cons_succ]
      refine takeG_l (i := 24) (v := .bool false) rfl (by kernel_rfl) (by kernel_rfl) (by kernel_rfl) (by rfl) (fun _ _ _ h => h) (.inl ⟨by rfl, by intro w' hw; go_simp⟩) ⟨fun _ => trivial, hG⟩ ?_
      simp only [Act.put, List.setIfInBounds_toArray, List.set_cons_zero, List.set_cons_succ]
      refine takeG_l (i := 25) (v := .slice (some ⟨b, o, none⟩) M cap0) rfl (by kernel_rfl) (by kernel_rfl) (by kernel_rfl) (by rfl) (fun _ _ _ h => h) (.inl ⟨by rfl, by intro w' hw; go_simp⟩) ⟨fun _ => trivial, hG⟩ ?_
      simp only [Act.put, List.setIfInBounds_toArray, List.set_cons_zero, List.set_cons_succ]
      refine takeG_l (i := 26) (v := .int .i64 (i : Int)) rfl (by kernel_rfl) (by kernel_rfl) (by kernel_rfl) (by rfl) (fun _ _ _ h => h) (.inl ⟨by rfl, by intro w' hw; go_simp⟩) ⟨fun _ => trivial, hG⟩ ?_
      simp only [Act.put, List.setIfInBounds_toArray, List.set_cons_zero, List.set_cons_succ]
      refine takeG_l (i := 27) (v := .pointer (some ⟨b, o + i * 5, none⟩)) rfl (by kernel_rfl) (by kernel_rfl) (by kernel_rfl) (by rfl) (fun _ _ _ h => h) (.inl ⟨by rfl, by intro w' hw; go_simp⟩) ⟨fun _ => trivial, hG⟩ ?_
      simp only [Act.put, List.setIfInBounds_toArray, List.set_cons_zero, List.set_cons_succ]
      refine takeG_l (i := 28) (v := .pointer (some ⟨b, o + i * 5 + 3, none⟩)) rfl (by kernel_rfl) (by kernel_rfl) (by kernel_rfl) (by rfl) (fun _ _ _ h => h) (.inl ⟨by rfl, by intro w' hw; go_simp⟩) ⟨fun _ => trivial, hG⟩ ?_
      simp only [Act.put, List.setIfInBounds_toArray, List.set_cons_zero, List.set_cons_succ]
      refine takeG_l (i := 29) (v := sV xs) rfl (by kernel_rfl) (by kernel_rfl) (by kernel_rfl) (by rfl) (fun _ _ _ h => h) (.inl ⟨by rfl, by intro w' hw; have hc := hw.cell x3; go_simp⟩) ⟨fun _ => trivial, hG⟩ ?_
      simp only [Act.put, List.setIfInBounds_toArray, List.set_cons_zero, List.set_cons_succ]
      refine takeG_l (i := 30) (v := .slice (some ⟨b', o', none⟩) M cap1) rfl (by kernel_rfl) (by kernel_rfl) (by kernel_rfl) (by rfl) (fun _ _ _ h => h) (.inl ⟨by rfl, by intro w' hw; go_simp⟩) ⟨fun _ => trivial, hG⟩ ?_
      simp only [Act.put, List.setIfInBounds_toArray, List.set_cons_zero, List.set_cons_succ]
      refine takeG_l (i := 31) (v := .int .i64 (i : Int)) rfl (by kernel_rfl) (by kernel_rfl) (by kernel_rfl) (by rfl) (fun _ _ _ h => h) (.inl ⟨by rfl, by intro w' hw; go_simp⟩) ⟨fun _ => trivial, hG⟩ ?_
      simp only [Act.put, List.setIfInBounds_toArray, List.set_cons_zero, List.set_cons_succ]
      refine takeG_l (i := 32) (v := .pointer (some ⟨b', o' + i * 5, none⟩)) rfl (by kernel_rfl) (by kernel_rfl) (by kernel_rfl) (by rfl) (fun _ _ _ h => h) (.inl ⟨by rfl, by intro w' hw; go_simp⟩) ⟨fun _ => trivial, hG⟩ ?_
      simp only [Act.put, List.setIfInBounds_toArray, List.set_cons_zero, List.set_cons_succ]
      refine takeG_l (i := 33) (v := .pointer (some ⟨b', o' + i * 5 + 3, none⟩)) rfl (by kernel_rfl) (by kernel_rfl) (by kernel_rfl) (by rfl) (fun _ _ _ h => h) (.inl ⟨by rfl, by intro w' hw; go_simp⟩) ⟨fun _ => trivial, hG⟩ ?_
      simp only [Act.put, List.setIfInBounds_toArray, List.set_cons_zero, List.set_cons_succ]
      refine takeG_l (i := 34) (v := sV xs) rfl (by kernel_rfl) (by kernel_rfl) (by kernel_rfl) (by rfl) (fun _ _ _ h => h) (.inl ⟨by rfl, by intro w' hw; have hc := hw.cell y3; go_simp⟩) ⟨fun _ => trivial, hG⟩ ?_
      simp only [Act.put, List.setIfInBounds_toArray, List.set_cons_zero, List.set_cons_succ]
      refine takeG_l (i := 35) (v := .bool false) rfl (by kernel_rfl) (by kernel_rfl) (by kernel_rfl) (by rfl) (fun _ _ _ h => h) (.inl ⟨by rfl, by intro w' hw; go_simp⟩) ⟨fun _ => trivial, hG⟩ ?_
      simp only [Act.put, List.setIfInBounds_toArray, List.set_cons_zero, List.set_cons_succ]
      refine takeG_l (i := 36) (v := .bool false) rfl (by kernel_rfl) (by kernel_rfl) (by kernel_rfl) (by rfl) (fun _ _ _ h => h) (.inl ⟨by rfl, by intro w' hw; go_simp⟩) ⟨fun _ => trivial, hG⟩ ?_
      simp only [Act.put, List.setIfInBounds_toArray, List.set_cons_zero, List.set_cons_succ]
      refine takeG_l (i := 37) (v := .bool false) rfl (by kernel_rfl) (by kernel_rfl) (by kernel_rfl) (by rfl) (fun _ _ _ h => h) (.inl ⟨by rfl, by intro w' hw; go_simp⟩) ⟨fun _ => trivial, hG⟩ ?_
      simp only [Act.put, List.setIfInBounds_toArray, List.set_cons_zero, List.set_cons_succ]
      refine takeG_l (i := 38) (v := .slice (some ⟨b, o, none⟩) M cap0) rfl (by kernel_rfl) (by kernel_rfl) (by kernel_rfl) (by rfl) (fun _ _ _ h => h) (.inl ⟨by rfl, by intro w' hw; go_simp⟩) ⟨fun _ => trivial, hG⟩ ?_
      simp only [Act.put, List.setIfInBounds_toArray, List.set_cons_zero, List.set_cons_succ]
      refine takeG_l (i := 39) (v := .int .i64 (i : Int)) rfl (by kernel_rfl) (by kernel_rfl) (by kernel_rfl) (by rfl) (fun _ _ _ h => h) (.inl ⟨by rfl, by intro w' hw; go_simp⟩) ⟨fun _ => trivial, hG⟩ ?_
      simp only [Act.put, List.setIfInBounds_toArray, List.set_cons_zero, List.set_cons_succ]
      refine takeG_l (i := 40) (v := .pointer (some ⟨b, o + i * 5, none⟩)) rfl (by kernel_rfl) (by kernel_rfl) (by kernel_rfl) (by rfl) (fun _ _ _ h => h) (.inl ⟨by rfl, by intro w' hw; go_simp⟩) ⟨fun _ => trivial, hG⟩ ?_
      simp only [Act.put, List.setIfInBounds_toArray, List.set_cons_zero, List.set_cons_succ]
      refine takeG_l (i := 41) (v := .pointer (some ⟨b, o + i * 5 + 4, none⟩)) rfl (by kernel_rfl) (by kernel_rfl) (by kernel_rfl) (by rfl) (fun _ _ _ h => h) (.inl ⟨by rfl, by intro w' hw; go_simp⟩) ⟨fun _ => trivial, hG⟩ ?_
      simp only [Act.put, List.setIfInBounds_toArray, List.set_cons_zero, List.set_cons_succ]
      refine takeG_l (i := 42) (v := .slice Ax Lx cx) rfl (by kernel_rfl) (by kernel_rfl) (by kernel_rfl) (by rfl) (fun _ _ _ h => h) (.inl ⟨by rfl, by intro w' hw; have hc := hw.cell x4; go_simp⟩) ⟨fun _ => trivial, hG⟩ ?_
      simp only [Act.put, List.setIfInBounds_toArray, List.set_cons_zero, List.set_cons_succ]
      refine takeG_l (i := 43) (v := .slice (some ⟨b', o', none⟩) M cap1) rfl (by kernel_rfl) (by kernel_rfl) (by kernel_rfl) (by rfl) (fun _ _ _ h => h) (.inl ⟨by rfl, by intro w' hw; go_simp⟩) ⟨fun _ => trivial, hG⟩ ?_
      simp only [Act.put, List.setIfInBounds_toArray, List.set_cons_zero, List.set_cons_succ]
      refine takeG_l (i := 44) (v := .int .i64 (i : Int)) rfl (by kernel_rfl) (by kernel_rfl) (by kernel_rfl) (by rfl) (fun _ _ _ h => h) (.inl ⟨by rfl, by intro w' hw; go_simp⟩) ⟨fun _ => trivial, hG⟩ ?_
      simp only [Act.put, List.setIfInBounds_toArray, List.set_cons_zero, List.set_cons_succ]
      refine takeG_l (i := 45) (v := .pointer (some ⟨b', o' + i * 5, none⟩)) rfl (by kernel_rfl) (by kernel_rfl) (by kernel_rfl) (by rfl) (fun _ _ _ h => h) (.inl ⟨by rfl, by intro w' hw; go_simp⟩) ⟨fun _ => trivial, hG⟩ ?_
      simp only [Act.put, List.setIfInBounds_toArray, List.set_cons_zero, List.set_cons_succ]
      refine takeG_l (i := 46) (v := .pointer (some ⟨b', o' + i * 5 + 4, none⟩)) rfl (by kernel_rfl) (by kernel_rfl) (by kernel_rfl) (by rfl) (fun _ _ _ h => h) (.inl ⟨by rfl, by intro w' hw; go_simp⟩) ⟨fun _ => trivial, hG⟩ ?_
      simp only [Act.put, List.setIfInBounds_toArray, List.set_cons_zero, List.set_cons_succ]
      refine takeG_l (i := 47) (v := .slice Ay Ly cy) rfl (by kernel_rfl) (by kernel_rfl) (by kernel_rfl) (by rfl) (fun _ _ _ h => h) (.inl ⟨by rfl, by intro w' hw; have hc := hw.cell y4; go_simp⟩) ⟨fun _ => trivial, hG⟩ ?_
      simp only [Act.put, List.setIfInBounds_toArray, List.set_cons_zero, List.set_cons_succ]
      generalize wr.drew = Wd at hG ⊢
      refine onlyL_l (i := 48) (by kernel_rfl) rfl (by rfl) (fun K hK => ?_)
      go_simp
      refine (hcall.out _ (hnb.trans hG)).mono ?_
      rintro r w5 ⟨rfl, nc⟩
      replace hG := hG.trans nc
      refine hK.out _ _ ⟨fun _ => trivial, hG⟩ (fun _ => ?_)
      clear hK K nc
      simp only [Act.put, List.setIfInBounds_toArray, List.set_cons_zero, List.set_cons_succ]
      cases R with
      | false =>
        refine takeG_l (i := 49) (v := .bool true) rfl (by kernel_rfl) (by kernel_rfl) (by kernel_rfl) (by rfl) (fun _ _ _ h => h) (.inl ⟨by rfl, by intro w' hw; go_simp⟩) ⟨fun _ => trivial, hG⟩ ?_
        simp only [Act.put, List.setIfInBounds_toArray, List.set_cons_zero, List.set_cons_succ]
        refine takeG_l (i := 50) (v := .bool true) rfl (by kernel_rfl) (by kernel_rfl) (by kernel_rfl) (by rfl) (fun _ _ _ h => h) (.inl ⟨by rfl, by intro w' hw; go_simp⟩) ⟨fun _ => trivial, hG⟩ ?_
        simp only [Act.put, List.setIfInBounds_toArray, List.set_cons_zero, List.set_cons_succ]
        refine doneL (by kernel_rfl) ?_ _
        have hgf := hbad.out rfl
        go_wp2_with fail
        go_ret
        exact ⟨by first | (rw [hgf]; rfl) | rfl, hn.trans hG⟩
      | true =>
        refine takeG_l (i := 49) (v := .bool false) rfl (by kernel_rfl) (by kernel_rfl) (by kernel_rfl) (by rfl) (fun _ _ _ h => h) (.inl ⟨by rfl, by intro w' hw; go_simp⟩) ⟨fun _ => trivial, hG⟩ ?_
        simp only [Act.put, List.setIfInBounds_toArray, List.set_cons_zero, List.set_cons_succ]
        refine takeG_l (i := 50) (v := .bool false) rfl (by kernel_rfl) (by kernel_rfl) (by kernel_rfl) (by rfl) (fun _ _ _ h => h) (.inl ⟨by rfl, by intro w' hw; go_simp⟩) ⟨fun _ => trivial, hG⟩ ?_
        simp only [Act.put, List.setIfInBounds_toArray, List.set_cons_zero, List.set_cons_succ]
        refine doneL (by kernel_rfl) ?_ _
        go_wp2_with fail
        exact ⟨⟨i + 1, by omega, by simp, htk.out, hn.trans hG⟩, by simp [intOf] <;> omega⟩
    · obtain rfl : i = M := by omega
      have hfull : G = true := by
        rw [← hg.out, ← hall]
        congr 1
        · rw [← hMh.out, List.take_length]
        · rw [← hNh.out, List.take_length]
      go_wp2_with fail
      go_ret
      exact ⟨by first | (rw [hfull]; rfl) | rfl, hn⟩
end Go.Proofs.YtojogolmcclpoaaDoor

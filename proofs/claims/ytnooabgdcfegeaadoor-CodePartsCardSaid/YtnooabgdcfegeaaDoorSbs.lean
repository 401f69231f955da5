/-
  Proved here: Assemble of items without branches; which items are looked at; the chapter's examples. Conditions: where the items lie; the table of codes holds what its text lays.
-/
import Derived.Test.YtnooabgdcfegeaaDoorSbr
import Derived.BigQuiet
namespace Go.Proofs.YtnooabgdcfegeaaDoor
open Go.RowKit Go.Shelf Go.ChangeMaps
set_option linter.unusedVariables false
set_option linter.unusedSimpArgs false
set_option maxRecDepth 100000
set_option maxHeartbeats 8000000
attribute [local go_sem] Oper.semAt_some
theorem asm_none (it : Option Addr) (b off cap : Nat) (base : Int) (hb0 : 0 ≤ base) (hb1 : base < 18446744073709551616) (is : List Itm) (hit : is ≠ [] → it = some ⟨b, off, none⟩) (hcap : is.length ≤ cap) (hl : is.length ≤ 100000) (hv : ∀ i ∈ is, 0 ≤ i.2.2.2 ∧ i.2.2.2 < 18446744073709551616 ∧ ImOk i.2.1)
    (w : World) (hC : Cod w) (hI : ItAt w b off is) (hno : ∀ i ∈ is, i.1 ≠ 3) :
    Calls Tryd.prog 7 #[.slice it is.length cap, .int .u64 base] w (AsmAns is base (List.replicate is.length false) w) := by
  refine assemble_any it b off cap base hb0 hb1 is hit hcap hl hv w hC hI (List.replicate is.length false) (by simp) ?_
  intro hbb g V hV hg hfl
  have hpick : ∃ b' off' ob', (is ≠ [] → it = some ⟨b', off', none⟩) ∧ V.heap[b']? = some ob' ∧ ItAt V b' off' is := by
    by_cases hn : is = []
    · subst hn
      exact ⟨g, 0, _, fun h => absurd rfl h, hfl, fun k i hi => by simp at hi⟩
    · have hI2 : ItAt V b off is := hI.nb hV
      obtain ⟨ob, h1⟩ := hI2.obj hn
      exact ⟨b, off, ob, hit, h1, hI2⟩
  obtain ⟨b', off', ob', h1, h2, h4⟩ := hpick
  refine (len_none it b' off' cap g is.length base hb0 hbb is (List.replicate is.length false) h1 (by simp) hcap (Nat.le_refl _) hl hv ob' _ V h2 hfl h4 (fl_at hfl) hno).mono ?_
  rintro r w' ⟨rfl, hn⟩
  exact ⟨rfl, hn.block hfl, hV.trans (hn.mono hV.size), Kq.of_nb hn⟩
/-- Are items not more than are looked at? -/
def oddN (is : List Itm) : Nat := is.countP fun i => i.1 != 1
def liteB (is : List Itm) : Bool := decide (is.length ≤ 3000) && decide (oddN is ≤ 60)
theorem oddN_snoc (is : List Itm) (k : Nat) (i : Itm) (h : is[k]? = some i) : oddN (is.take (k + 1)) = oddN (is.take k) + if (i.1 != 1) = true then 1 else 0 := by
  unfold oddN
  rw [List.take_add_one, h, List.countP_append]
  simp only [Option.toList_some, List.countP_cons, List.countP_nil, Nat.zero_add]
theorem light_any (it : Option Addr) (b off cap : Nat) (is : List Itm) (hit : is ≠ [] → it = some ⟨b, off, none⟩) (hcap : is.length ≤ cap) (hl : is.length ≤ 9223372036854775807) (w : World) (hI : ItAt w b off is) :
    Calls Tryd.prog 5 #[.slice it is.length cap] w fun r w' => r = .returned (.bool (liteB is)) ∧ Nb w w' := by
  have hR0 : Hid (Nb w w) := Lib.hid (Nb.refl _)
  have hIh := Lib.hid hI
  have hith := Lib.hid hit
  clear hI hit
  unfold liteB
  by_cases h3 : is.length ≤ 3000
  case neg =>
    have e1 : decide ((is.length : Int) > 3000) = true := by simp; omega
    rw [decide_eq_false h3]
    clear h3 hR0
    go_enter Tryd.func5, Tryd.ntmps5
    go_wp2_with fail
    go_ret
    exact ⟨rfl, Nb.refl _⟩
  have e1 : decide ((is.length : Int) > 3000) = false := by simp; omega
  rw [decide_eq_true h3]
  obtain ⟨B6, hB6⟩ : ∃ B6, decide (oddN is ≤ 60) = B6 := ⟨_, rfl⟩
  rw [hB6]
  replace hB6 := Lib.hid hB6
  have hlc : ∀ k, oddN (is.take k) ≤ 3000 := fun k => by
    have h1 : oddN (is.take k) ≤ (is.take k).length := List.countP_le_length
    rw [List.length_take] at h1
    omega
  replace hlc := Lib.hid hlc
  go_enter Tryd.func5, Tryd.ntmps5
  go_wp2_with fail
  clear e1
  go_loopw [3, 5, 11] (fun o _ si wr => ∃ k : Nat, k ≤ is.length ∧ si = .int .i64 k ∧ o = .int .i64 (oddN (is.take k)) ∧ Hid (Nb w wr)) (fun _ _ si _ => is.length - (intOf si).toNat)
  case atStart => exact ⟨0, Nat.zero_le _, rfl, rfl, hR0⟩
  case round =>
    obtain ⟨k, hk, rfl, rfl, hR⟩ := hrel
    clear hR0
    by_cases hlt : k < is.length
    · have hb1 : (0 : Int) ≤ (k : Int) := by omega
      have hb2 : (k : Int) < (is.length : Int) := by omega
      obtain ⟨i, hii⟩ : ∃ i, is[k]? = some i := ⟨_, List.getElem?_eq_getElem hlt⟩
      have hP := fun j u hu => (hIh.out.nb hR.out) k i hii j u hu
      obtain rfl := hith.out (by rintro rfl; simp at hlt)
      have hsn := oddN_snoc is k i hii
      obtain ⟨kd, ⟨o1, o2, o3, o4, o5, o6, o7⟩, nm, v⟩ := i
      have p0 : wr.cell? ⟨b, off + k * 10, none⟩ = some (.int .i64 kd) := hP 0 _ rfl
      have p1 : wr.cell? ⟨b, off + k * 10 + 1, none⟩ = some (.int .i64 o1) := hP 1 _ rfl
      have p2 : wr.cell? ⟨b, off + k * 10 + 2, none⟩ = some (.int .i64 o2) := hP 2 _ rfl
      have p3 : wr.cell? ⟨b, off + k * 10 + 3, none⟩ = some (.int .i64 o3) := hP 3 _ rfl
      have p4 : wr.cell? ⟨b, off + k * 10 + 4, none⟩ = some (.int .i64 o4) := hP 4 _ rfl
      have p5 : wr.cell? ⟨b, off + k * 10 + 5, none⟩ = some (.int .i64 o5) := hP 5 _ rfl
      have p6 : wr.cell? ⟨b, off + k * 10 + 6, none⟩ = some (.bool o6) := hP 6 _ rfl
      have p7 : wr.cell? ⟨b, off + k * 10 + 7, none⟩ = some (.bool o7) := hP 7 _ rfl
      have p8 : wr.cell? ⟨b, off + k * 10 + 8, none⟩ = some (.string nm) := hP 8 _ rfl
      have p9 : wr.cell? ⟨b, off + k * 10 + 9, none⟩ = some (.int .u64 v) := hP 9 _ rfl
      have hc := hlc.out k
      replace hsn := Lib.hid hsn
      clear hP hii
      obtain ⟨WA, hWA⟩ : ∃ WA, wr.alloc (.cells #[.int .i64 kd, .int .i64 o1, .int .i64 o2, .int .i64 o3, .int .i64 o4, .int .i64 o5, .bool o6, .bool o7, .string nm, .int .u64 v] 39) = WA := ⟨_, rfl⟩
      have nA : Nb wr WA := by rw [← hWA]; exact Below.alloc (Below.refl _ _) (Nat.le_refl _) _
      have bA : WA.heap[wr.heap.size]? = some (.cells #[.int .i64 kd, .int .i64 o1, .int .i64 o2, .int .i64 o3, .int .i64 o4, .int .i64 o5, .bool o6, .bool o7, .string nm, .int .u64 v] 39 (0, 0)) := by rw [← hWA]; exact new_bkc _ _ rfl
      go_upto_region 7 with (fail)
      clear hWA p0 p1 p2 p3 p4 p5 p6 p7 p8 p9
      have i0 := cell_of_row _ _ 0 _ _ _ bA
      generalize oddN (is.take k) = S at hsn hc ⊢
      cases h2 : (kd != 1)
      · have hs2 := hsn.out
        rw [if_neg (by simpa using h2)] at hs2
        replace hs2 := Lib.hid hs2
        clear hsn
        go_wp2_with fail
        go_roundw
        case rel => exact ⟨k + 1, hlt, by simp, by rw [hs2.out]; rfl, Lib.hid (hR.out.trans nA)⟩
        case measure => simp [intOf]; omega
      · have hs2 := hsn.out
        rw [if_pos (by simpa using h2)] at hs2
        have e5 : IntKind.i64.wrap ((S : Int) + 1) = ((S + 1 : Nat) : Int) := by rw [IntKind.wrap_i64]; omega
        replace hs2 := Lib.hid hs2
        clear hsn
        go_wp2_with fail
        go_roundw
        case rel => exact ⟨k + 1, hlt, by simp, by rw [hs2.out]; simp, Lib.hid (hR.out.trans nA)⟩
        case measure => simp [intOf]; omega
    · obtain rfl : k = is.length := by omega
      have hc := hlc.out is.length
      have h6 := hB6.out
      rw [List.take_length] at hc ⊢
      generalize oddN is = S at hc h6 ⊢
      have e5 : decide ((S : Int) ≤ 60) = B6 := by rw [← h6]; simp; omega
      clear h6
      go_wp2_with fail
      go_ret
      exact ⟨by simp [e5], hR.out⟩
theorem row1_at {w : World} {base : Nat} {e : TypeId} {s : Value} {xs : List Value} (h : w.ownsRow base e 1 s xs.length xs) (k : Nat) (hk : k < xs.length) :
    ∃ g cap, s = .slice (some ⟨g, 0, none⟩) xs.length cap ∧ xs.length ≤ cap ∧ w.cell? ⟨g, k, none⟩ = xs[k]? := by
  rcases h.2 with ⟨rfl, h0⟩ | ⟨g, cap, cur, rfl, hb, hg, hc, hm, hsz, ht⟩
  · omega
  · refine ⟨g, cap, rfl, hc, ?_⟩
    rw [cell_of_row _ _ _ _ _ _ hg, ← Array.getElem?_toList, ← ht, List.getElem?_take, if_pos (by omega)]
theorem same_words (b1 b2 : Nat) (s t : Value) (xs ys : List Int) (hlx : xs.length ≤ 10000000) (hly : ys.length ≤ 10000000) (w : World) (h1 : w.ownsRow b1 60 1 s xs.length (xs.map (Value.int .u32))) (h2 : w.ownsRow b2 60 1 t ys.length (ys.map (Value.int .u32))) :
    Calls Tryd.prog 9 #[s, t] w fun r w' => r = .returned (.bool (decide (xs = ys))) ∧ Nb w w' := by
  obtain ⟨A1, c1, rfl⟩ := row_sl h1
  obtain ⟨A2, c2, rfl⟩ := row_sl h2
  by_cases hn : xs.length = ys.length
  case neg =>
    have e1 : ((xs.length : Int) != (ys.length : Int)) = true := by simp; omega
    rw [decide_eq_false (fun e => hn (by rw [e]))]
    clear hn h1 h2
    go_enter Tryd.func9, Tryd.ntmps9
    go_wp2_with fail
    go_ret
    exact ⟨rfl, Nb.refl _⟩
  have e1 : ((xs.length : Int) != (ys.length : Int)) = false := by rw [hn]; simp
  obtain ⟨D, hD⟩ : ∃ D, decide (xs = ys) = D := ⟨_, rfl⟩
  rw [hD]
  have hx : ∀ k, k < xs.length → ∃ g, A1 = some ⟨g, 0, none⟩ ∧ xs.length ≤ c1 ∧ ∃ x, xs[k]? = some x ∧ w.cell? ⟨g, k, none⟩ = some (.int .u32 x) := by
    intro k hk
    have h1' : w.ownsRow b1 60 1 (.slice A1 xs.length c1) (xs.map (Value.int .u32)).length (xs.map (Value.int .u32)) := by rw [List.length_map]; exact h1
    obtain ⟨g, cap, e, hc, hcell⟩ := row1_at h1' k (by rw [List.length_map]; exact hk)
    simp only [List.length_map, Value.slice.injEq] at e hc
    obtain ⟨rfl, -, rfl⟩ := e
    refine ⟨g, rfl, hc, xs[k], List.getElem?_eq_getElem hk, ?_⟩
    rw [hcell, List.getElem?_map, List.getElem?_eq_getElem hk]
    rfl
  have hy : ∀ k, k < ys.length → ∃ g, A2 = some ⟨g, 0, none⟩ ∧ ys.length ≤ c2 ∧ ∃ x, ys[k]? = some x ∧ w.cell? ⟨g, k, none⟩ = some (.int .u32 x) := by
    intro k hk
    have h1' : w.ownsRow b2 60 1 (.slice A2 ys.length c2) (ys.map (Value.int .u32)).length (ys.map (Value.int .u32)) := by rw [List.length_map]; exact h2
    obtain ⟨g, cap, e, hc, hcell⟩ := row1_at h1' k (by rw [List.length_map]; exact hk)
    simp only [List.length_map, Value.slice.injEq] at e hc
    obtain ⟨rfl, -, rfl⟩ := e
    refine ⟨g, rfl, hc, ys[k], List.getElem?_eq_getElem hk, ?_⟩
    rw [hcell, List.getElem?_map, List.getElem?_eq_getElem hk]
    rfl
  have hR0 : Hid (Nb w w ∧ xs.take 0 = ys.take 0) := Lib.hid ⟨Nb.refl _, rfl⟩
  replace hx := Lib.hid hx
  replace hy := Lib.hid hy
  replace hD := Lib.hid hD
  clear h1 h2
  obtain ⟨m, hm⟩ : ∃ m, ys.length = m := ⟨_, rfl⟩
  rw [hm] at hn hy hly e1
  have hmh := Lib.hid hm
  have hnh := Lib.hid hn
  rw [hn] at hx hlx e1 ⊢
  rw [hm]
  clear hn hm
  go_enter Tryd.func9, Tryd.ntmps9
  go_wp2_with fail
  clear e1
  go_loopw [5] (fun si wr => ∃ k : Nat, k ≤ m ∧ si = .int .i64 k ∧ Hid (Nb w wr ∧ xs.take k = ys.take k)) (fun si _ => m - (intOf si).toNat)
  case atStart => exact ⟨0, Nat.zero_le _, rfl, hR0⟩
  case round =>
    obtain ⟨k, hk, rfl, hR⟩ := hrel
    clear hR0
    by_cases hlt : k < m
    · have hb1 : (0 : Int) ≤ (k : Int) := by omega
      have hb2 : (k : Int) < (m : Int) := by omega
      obtain ⟨g1, rfl, hc1, x, hxk, q1⟩ := hx.out k hlt
      obtain ⟨g2, rfl, hc2, y, hyk, q2⟩ := hy.out k hlt
      replace q1 := hR.out.1.cell q1
      replace q2 := hR.out.1.cell q2
      have hd := drew1c wr
      have htx : xs.take (k + 1) = xs.take k ++ [x] := by rw [List.take_add_one, hxk]; rfl
      have hty : ys.take (k + 1) = ys.take k ++ [y] := by rw [List.take_add_one, hyk]; rfl
      have hne : x ≠ y → D = false := fun h => by rw [← hD.out]; exact decide_eq_false (fun e => by subst e; rw [hxk] at hyk; cases hyk; exact h rfl)
      replace htx := Lib.hid htx
      replace hty := Lib.hid hty
      replace hne := Lib.hid hne
      replace hd := Lib.hid hd
      clear hxk hyk
      cases hxy : (x == y)
      · have hxy' : (x != y) = true := by rw [bne, hxy]; rfl
        have hD2 : Hid (D = false) := Lib.hid (hne.out (by simpa using hxy))
        clear hne
        go_wp2_with fail
        go_region
        go_wp2_with fail
        go_ret
        exact ⟨by rw [hD2.out] <;> rfl, hR.out.1.trans hd.out⟩
      · have hxy' : (x != y) = false := by rw [bne, hxy]; rfl
        have hfin : Hid (Nb w wr.drew ∧ xs.take (k + 1) = ys.take (k + 1)) := Lib.hid ⟨hR.out.1.trans hd.out, by rw [htx.out, hty.out, hR.out.2, show x = y by simpa using hxy]⟩
        clear hne
        go_wp2_with fail
        go_region
        go_wp2_with fail
        go_roundw
        case rel => exact ⟨k + 1, hlt, by simp, hfin⟩
        case measure => simp [intOf]; omega
    · obtain rfl : k = m := by omega
      have hD2 : Hid (D = true) := Lib.hid (by
        rw [← hD.out]
        refine decide_eq_true ?_
        have h := hR.out.2
        rwa [List.take_of_length_le (by rw [hnh.out]; exact Nat.le_refl _), List.take_of_length_le (by rw [hmh.out]; exact Nat.le_refl _)] at h)
      go_wp2_with fail
      go_ret
      exact ⟨by rw [hD2.out] <;> rfl, hR.out.1⟩
end Go.Proofs.YtnooabgdcfegeaaDoor

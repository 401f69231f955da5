/-
  Proved here: for every instruction, what loads or stores has a size and nothing else has, atomic operations are of 4 or 8 bytes, and registers that are read or written are from 1 to 31. Condition: the table of codes holds what its text lays (the card ties it to the text).
-/
import Derived.Test.YtcbaokgdpmjhgaaDoorSa
import Derived.Test.YtcbaokgdpmjhgaaDoorCards
import Derived.Test.YtcbaokgdpmjhgaaDoorTie
import Derived.SevenTiedAt
import Derived.Test.YtcbaokgdpmjhgaaDoorTc
import Derived.Deep.RegionHeld3
namespace Go.Proofs.YtcbaokgdpmjhgaaDoor.instKinds
open Go.ChangeShapes Go.WideShapes Go.ChangeAt Go.RowKit Go.Sort
set_option linter.unusedVariables false
theorem keepS {w W : World} {n : Nat} {v0 v1 v2 v3 v4 v5 v6 : Value} (h : Nb w W) {W2 : World}
    (hS : Nb W2 w ∧ n < w.heap.size ∧ w.cell? ⟨n, 0, none⟩ = some v0 ∧ w.cell? ⟨n, 1, none⟩ = some v1 ∧ w.cell? ⟨n, 2, none⟩ = some v2 ∧ w.cell? ⟨n, 3, none⟩ = some v3 ∧ w.cell? ⟨n, 4, none⟩ = some v4 ∧ w.cell? ⟨n, 5, none⟩ = some v5 ∧ w.cell? ⟨n, 6, none⟩ = some v6) :
    Nb W2 W ∧ n < W.heap.size ∧ W.cell? ⟨n, 0, none⟩ = some v0 ∧ W.cell? ⟨n, 1, none⟩ = some v1 ∧ W.cell? ⟨n, 2, none⟩ = some v2 ∧ W.cell? ⟨n, 3, none⟩ = some v3 ∧ W.cell? ⟨n, 4, none⟩ = some v4 ∧ W.cell? ⟨n, 5, none⟩ = some v5 ∧ W.cell? ⟨n, 6, none⟩ = some v6 := by
  obtain ⟨h0, h1, c0, c1, c2, c3, c4, c5, c6⟩ := hS
  exact ⟨h0.trans h, Nat.lt_of_lt_of_le h1 h.size, h.cell c0, h.cell c1, h.cell c2, h.cell c3, h.cell c4, h.cell c5, h.cell c6⟩
theorem codS {w W2 : World} (hC : Cod W2) {R : Prop} (hS : Nb W2 w ∧ R) : Cod w := hC.of_nb hS.1
theorem keepG {wb wp w26 w1 W2 : World} {m : Nat} {xs : List Value} {v : Value} {n : Nat} {R : Prop} {v0 v1 v2 v3 v4 v5 v6 : Value} (hg : wb.grownBy w1 v.ownBlock) (ho : w26.ownsRow wp.heap.size 3 1 v m xs) (hp : Nb W2 wp ∧ n < wp.heap.size ∧ R)
    (hS : Nb W2 wb ∧ n < wb.heap.size ∧ wb.cell? ⟨n, 0, none⟩ = some v0 ∧ wb.cell? ⟨n, 1, none⟩ = some v1 ∧ wb.cell? ⟨n, 2, none⟩ = some v2 ∧ wb.cell? ⟨n, 3, none⟩ = some v3 ∧ wb.cell? ⟨n, 4, none⟩ = some v4 ∧ wb.cell? ⟨n, 5, none⟩ = some v5 ∧ wb.cell? ⟨n, 6, none⟩ = some v6) :
    Nb W2 w1 ∧ n < w1.heap.size ∧ w1.cell? ⟨n, 0, none⟩ = some v0 ∧ w1.cell? ⟨n, 1, none⟩ = some v1 ∧ w1.cell? ⟨n, 2, none⟩ = some v2 ∧ w1.cell? ⟨n, 3, none⟩ = some v3 ∧ w1.cell? ⟨n, 4, none⟩ = some v4 ∧ w1.cell? ⟨n, 5, none⟩ = some v5 ∧ w1.cell? ⟨n, 6, none⟩ = some v6 := by
  obtain ⟨h0, h1, c0, c1, c2, c3, c4, c5, c6⟩ := hS
  have hne : some n ≠ v.ownBlock := fun h => by have := (ho.lt n h.symm).1; have := hp.2.1; omega
  exact ⟨Below.grown h0 hg h0.size (fun k hk => Nat.le_trans hp.1.size (ho.lt k hk).1), Nat.lt_of_lt_of_le h1 hg.size, hg.cell c0 hne, hg.cell c1 hne, hg.cell c2 hne, hg.cell c3 hne, hg.cell c4 hne, hg.cell c5 hne, hg.cell c6 hne⟩
/-- What the sizes are, by kinds. -/
def KindB (op : Int) : Bool := (AtomB op && (SizeI op == 4) && LoadB op) || (AtomB op && (SizeI op == 8) && LoadB op) || (AtomB op && (SizeI op == 4) && !LoadB op && StoreB op) || (AtomB op && (SizeI op == 8) && !LoadB op && StoreB op) ||
    (!AtomB op && decide (0 < SizeI op) && LoadB op) || (!AtomB op && decide (0 < SizeI op) && !LoadB op && StoreB op) || (!AtomB op && (SizeI op == 0) && !LoadB op && !StoreB op)
theorem kinds_low : ∀ n : Nat, n < 128 → KindB (n : Int) = true := by decide +kernel
theorem kinds (op : Int) : KindB op = true := by
  by_cases h : 0 ≤ op ∧ op < 128
  · obtain ⟨n, rfl⟩ := Int.eq_ofNat_of_zero_le h.1
    exact kinds_low n (by omega)
  · have h1 : AtomB op = false := decide_eq_false (by omega)
    have h2 : LoadB op = false := decide_eq_false (by omega)
    have h3 : StoreB op = false := decide_eq_false (by omega)
    have h4 : SizeI op = 0 := by
      unfold SizeI
      rw [if_neg (by omega), if_neg (by omega), if_neg (by omega), if_neg (by omega), if_neg (by omega), if_neg (by omega)]
    unfold KindB; rw [h1, h2, h3, h4]; rfl
theorem kinds_of {n : Int} {l s a : Bool} (h : ((a && (n == 4) && l) || (a && (n == 8) && l) || (a && (n == 4) && !l && s) || (a && (n == 8) && !l && s) || (!a && decide (0 < n) && l) || (!a && decide (0 < n) && !l && s) || (!a && (n == 0) && !l && !s)) = true) :
    (a = true ∧ n = 4 ∧ l = true) ∨ (a = true ∧ n = 8 ∧ l = true) ∨ (a = true ∧ n = 4 ∧ l = false ∧ s = true) ∨ (a = true ∧ n = 8 ∧ l = false ∧ s = true) ∨
    (a = false ∧ decide (0 < n) = true ∧ l = true) ∨ (a = false ∧ decide (0 < n) = true ∧ l = false ∧ s = true) ∨ (a = false ∧ n = 0 ∧ l = false ∧ s = false) := by
  cases a <;> cases l <;> cases s <;> simp at h ⊢ <;> omega
theorem usesl_in {g : Bool} {r1 r2 : Int} (h : g = true → (0 ≤ r1 ∧ r1 ≤ 31) ∧ (0 ≤ r2 ∧ r2 ≤ 31)) : ∀ z ∈ UsesL g r1 r2, 1 ≤ z ∧ z ≤ 31 := by
  intro z hz
  cases g
  · simp [UsesL] at hz
  · obtain ⟨⟨a, b⟩, c, d⟩ := h rfl
    unfold UsesL nz at hz
    rw [if_pos rfl, List.mem_append] at hz
    rcases hz with hz | hz <;> split at hz <;> simp at hz <;> omega
/-- The cells of a slice whose numbers are all from 1 to 31. -/
theorem cells_in {w : World} {b g c : Nat} {zs : List Int} {m : Int} (h : w.ownsRow b 3 1 (.slice (some ⟨g, 0, none⟩) (zs.length + 1) c) (zs.length + 1) (zs.map (Value.int .i64) ++ [.int .i64 m]))
    (hz : ∀ z ∈ zs, 1 ≤ z ∧ z ≤ 31) (hm : 1 ≤ m ∧ m ≤ 31) (k : Nat) (hk : k < zs.length + 1) : ∃ z : Int, w.cell? ⟨g, k, none⟩ = some (.int .i64 z) ∧ 1 ≤ z ∧ z ≤ 31 := by
  have hc := h.cellAt k (by omega)
  by_cases hk2 : k < zs.length
  · refine ⟨zs[k], ?_, hz _ (List.getElem_mem hk2)⟩
    rw [hc, List.getElem?_append_left (by simpa using hk2)]
    simp [hk2]
  · obtain rfl : k = zs.length := by omega
    refine ⟨m, ?_, hm⟩
    rw [hc, List.getElem?_append_right (by simp)]
    simp
set_option maxRecDepth 100000 in
set_option maxHeartbeats 8000000 in
theorem walk (op rd rs1 rs2 im : Int) (aq rl : Bool) (w4 : InI im) (w : World) (hC : Cod w) :
    Calls Tryd.prog 9 #[instV op rd rs1 rs2 im aq rl] w fun e w' => e = .returned (.bool true) ∧ Nb w w' := by
  have HUA := Lib.hid (fun w hC => uses_any op rd rs1 rs2 im aq rl w4.1 w4.2 w hC)
  have HSA := Lib.hid (fun w hC => sets_any op rd rs1 rs2 im aq rl w4.1 w4.2 w hC)
  have HGA := Lib.hid (fun w hC => good_any op rd rs1 rs2 im aq rl w4.1 w4.2 w hC)
  have HLo := Lib.hid (fun w => loads_any op w)
  have HSt := Lib.hid (fun w => stores_any op w)
  have HAt := Lib.hid (fun w => atom_any op w)
  have HSz := Lib.hid (fun w => size_any op w)
  have HK := kinds op
  have hgr := fun h => good_ranges (op := op) (rd := rd) (rs1 := rs1) (rs2 := rs2) (im := im) (aq := aq) (rl := rl) h
  unfold KindB at HK
  generalize SizeI op = n at *
  generalize LoadB op = l at *
  generalize StoreB op = s at *
  generalize AtomB op = a at *
  generalize GoodB op rd rs1 rs2 im aq rl = g at *
  have HK := kinds_of HK
  have hz := usesl_in (g := g) (r1 := rs1) (r2 := rs2) (fun h => ⟨(hgr h).2.1, (hgr h).2.2⟩)
  have hlen := uses_len g rs1 rs2
  have hzn : g = false → UsesL g rs1 rs2 = [] := fun h => by rw [h]; rfl
  have hs0 : 0 ≤ (if g = true then rd else 0) ∧ (if g = true then rd else 0) ≤ 31 := by
    cases g
    · rw [if_neg (by decide)]; omega
    · rw [if_pos rfl]; exact (hgr rfl).1
  have hsn : g = false → (if g = true then rd else 0) = 0 := fun h => by rw [h]; rfl
  generalize UsesL g rs1 rs2 = zs at *
  generalize (if g = true then rd else 0) = st at *
  clear hgr w4
  have HZ := Lib.hid hz
  have HZN := Lib.hid hzn
  have HSN := Lib.hid hsn
  have HLEN := Lib.hid hlen
  have hm : 1 ≤ max 1 st ∧ max 1 st ≤ 31 := by omega
  have HM := Lib.hid hm
  obtain ⟨s0, s1⟩ := hs0
  clear hz hzn hsn hlen hm
  obtain ⟨i0, hi, hz0, hz1, hz2⟩ := info_parts info3
  unfold instV
  rcases HK with ⟨rfl, rfl, rfl⟩ | ⟨rfl, rfl, rfl⟩ | ⟨rfl, rfl, rfl, rfl⟩ | ⟨rfl, rfl, rfl, rfl⟩ | ⟨rfl, HP, rfl⟩ | ⟨rfl, HP, rfl, rfl⟩ | ⟨rfl, rfl, rfl, rfl⟩
  · go_enter Tryd.func9, Tryd.ntmps9
    go_wp2_with fail
    obtain ⟨W1, hW1⟩ : ∃ W1, w.alloc (.cells #[.int .i64 op, .int .i64 rd, .int .i64 rs1, .int .i64 rs2, .int .i64 im, .bool aq, .bool rl] 23) = W1 := ⟨_, rfl⟩
    have hb1 := blk_made w _ hW1 rfl
    have hN1 : Nb w W1 := by rw [← hW1]; exact (Nb.refl _).alloc _
    rw [hW1]
    clear hW1
    have hC1 := hC.of_nb hN1
    clear hC
    obtain ⟨n1, c0, c1, c2, c3, c4, c5, c6⟩ := cells7 hb1
    clear hb1
    refine (HSz.out _).mono ?_
    rintro e w' ⟨rfl, rfl⟩
    go_upto_region 4 with (first
      | (go_at_call 17; refine (HLo.out _).mono ?_; rintro e w' ⟨rfl, rfl⟩)
      | (go_at_call 19; refine (HSt.out _).mono ?_; rintro e w' ⟨rfl, rfl⟩)
      | (go_at_call 21; refine (HAt.out _).mono ?_; rintro e w' ⟨rfl, rfl⟩))
    go_region_held3 (fun w' => Nb W1 w' ∧ w.heap.size < w'.heap.size ∧ w'.cell? ⟨w.heap.size, 0, none⟩ = some (.int .i64 op) ∧ w'.cell? ⟨w.heap.size, 1, none⟩ = some (.int .i64 rd) ∧ w'.cell? ⟨w.heap.size, 2, none⟩ = some (.int .i64 rs1) ∧ w'.cell? ⟨w.heap.size, 3, none⟩ = some (.int .i64 rs2) ∧ w'.cell? ⟨w.heap.size, 4, none⟩ = some (.int .i64 im) ∧ w'.cell? ⟨w.heap.size, 5, none⟩ = some (.bool aq) ∧ w'.cell? ⟨w.heap.size, 6, none⟩ = some (.bool rl))
      (first | assumption | (exact keepS (by assumption) (by assumption)) | (exact keepS ((Nb.refl _).alloc _) (by assumption)) | (exact keepG (wp := W1.drew) hgrow ho1 ⟨(Nb.refl W1).drewN 1, n1, trivial⟩ (by assumption)) | (exact ⟨(Nb.refl _).drewN 1, n1, c0, c1, c2, c3, c4, c5, c6⟩))
      (first
        | (go_at_call 26; refine (HUA.out _ (codS hC1 (by assumption))).mono ?_; rintro e w26 ⟨v1, rfl, ho1, hn26⟩)
        | (go_at_call 28; refine (HSA.out _ (codS hC1 (by assumption))).mono ?_; rintro e w28 ⟨rfl, hn28⟩)
        | (refine step_append_lies _ (by rfl) _ _ _ (by rfl) _ 3 i0 _ 1 8 Tryd.underlying40 hi hz0 hz1 hz2 rfl (by omega) v1 _ _ (by rfl) (own_nb ho1 (hn28.alloc _)) ⟨w28.heap.size, 0, none⟩ 1 1 [.int .i64 (max 1 st)] (by rfl) (by rfl) (one_news _ _) (one_cell _) (by omega) (by have := HLEN.out; unfold maxLen; omega) (by have := HLEN.out; omega) (Nat.le_trans (Nat.le_trans hn26.size hn28.size) (by simp)) _ rfl ?_; intro gg cap w1 hown1 hgrow hat hlt))
    rename_i hH
    clear n1 c0 c1 c2 c3 c4 c5 c6
    have HS := Lib.hid hH
    have HCI := Lib.hid (cells_in hown1 HZ.out HM.out)
    clear hH hown1 hgrow hat hlt ho1 hn26 hn28
    go_wp2_with fail
    go_loop [41] (fun i => ∃ k : Nat, k ≤ zs.length + 1 ∧ i = .int .i64 k) (fun i => (zs.length + 1) - (intOf i).toNat)
    case atStart => exact ⟨0, by omega, rfl⟩
    case round =>
      obtain ⟨k, hk, rfl⟩ := hrel
      have hl2 := HLEN.out
      by_cases hlt : k < zs.length + 1
      · obtain ⟨z, hcell, z0, z1⟩ := HCI.out k hlt
        go_wp2_with fail
        go_round
        case rel => exact ⟨k + 1, by omega, by go_num⟩
        case measure => simp [intOf]; omega
      · obtain ⟨hN0, n1, c0, c1, c2, c3, c4, c5, c6⟩ := HS.out
        go_wp2_with fail
        cases g
        · refine (HGA.out _ (hC1.of_nb hN0)).mono ?_
          rintro e w12 ⟨rfl, hn12⟩
          have hS2 := keepS hn12 HS.out
          have HS2 := Lib.hid hS2
          clear n1 c0 c1 c2 c3 c4 c5 c6 hS2
          obtain ⟨hN2, n1, c0, c1, c2, c3, c4, c5, c6⟩ := HS2.out
          go_wp2_with fail
          refine (HUA.out _ (hC1.of_nb hN2)).mono ?_
          rintro e w13 ⟨v2, rfl, ho2, hn13⟩
          have hS3 := keepS hn13 HS2.out
          have HS3 := Lib.hid hS3
          clear n1 c0 c1 c2 c3 c4 c5 c6 hS3
          obtain ⟨A2, cc2, rfl⟩ := own_form ho2
          have hze : zs.length = 0 := by rw [HZN.out (by simp)]; rfl
          rw [hze]
          obtain ⟨hN3, n1, c0, c1, c2, c3, c4, c5, c6⟩ := HS3.out
          clear ho2 hk hl2 hlt hze
          go_wp2_with fail
          refine (HSA.out _ (hC1.of_nb hN3)).mono ?_
          rintro e w14 ⟨rfl, hn14⟩
          rw [HSN.out (by simp)]
          have hN4 := hN3.trans hn14
          clear n1 c0 c1 c2 c3 c4 c5 c6
          go_wp2_with fail
          refine (ilives_any _ (hC1.of_nb hN4)).mono ?_
          rintro e w15 ⟨rfl, hn15⟩
          have hN5 := hN1.trans (hN4.trans hn15)
          clear hN0 hN1 hN2 hN3 hN4 hn12 hn13 hn14 hn15 hC1
          go_wp2_with fail
          go_ret
          exact ⟨rfl, hN5⟩
        · refine (HGA.out _ (hC1.of_nb hN0)).mono ?_
          rintro e w12 ⟨rfl, hn12⟩
          have hN4 := hN0.trans hn12
          clear n1 c0 c1 c2 c3 c4 c5 c6 hk hl2 hlt
          go_wp2_with fail
          refine (ilives_any _ (hC1.of_nb hN4)).mono ?_
          rintro e w15 ⟨rfl, hn15⟩
          have hN5 := hN1.trans (hN4.trans hn15)
          clear hN0 hN1 hN4 hn12 hn15 hC1
          go_wp2_with fail
          go_ret
          exact ⟨rfl, hN5⟩
  · go_enter Tryd.func9, Tryd.ntmps9
    go_wp2_with fail
    obtain ⟨W1, hW1⟩ : ∃ W1, w.alloc (.cells #[.int .i64 op, .int .i64 rd, .int .i64 rs1, .int .i64 rs2, .int .i64 im, .bool aq, .bool rl] 23) = W1 := ⟨_, rfl⟩
    have hb1 := blk_made w _ hW1 rfl
    have hN1 : Nb w W1 := by rw [← hW1]; exact (Nb.refl _).alloc _
    rw [hW1]
    clear hW1
    have hC1 := hC.of_nb hN1
    clear hC
    obtain ⟨n1, c0, c1, c2, c3, c4, c5, c6⟩ := cells7 hb1
    clear hb1
    refine (HSz.out _).mono ?_
    rintro e w' ⟨rfl, rfl⟩
    go_upto_region 4 with (first
      | (go_at_call 17; refine (HLo.out _).mono ?_; rintro e w' ⟨rfl, rfl⟩)
      | (go_at_call 19; refine (HSt.out _).mono ?_; rintro e w' ⟨rfl, rfl⟩)
      | (go_at_call 21; refine (HAt.out _).mono ?_; rintro e w' ⟨rfl, rfl⟩))
    go_region_held3 (fun w' => Nb W1 w' ∧ w.heap.size < w'.heap.size ∧ w'.cell? ⟨w.heap.size, 0, none⟩ = some (.int .i64 op) ∧ w'.cell? ⟨w.heap.size, 1, none⟩ = some (.int .i64 rd) ∧ w'.cell? ⟨w.heap.size, 2, none⟩ = some (.int .i64 rs1) ∧ w'.cell? ⟨w.heap.size, 3, none⟩ = some (.int .i64 rs2) ∧ w'.cell? ⟨w.heap.size, 4, none⟩ = some (.int .i64 im) ∧ w'.cell? ⟨w.heap.size, 5, none⟩ = some (.bool aq) ∧ w'.cell? ⟨w.heap.size, 6, none⟩ = some (.bool rl))
      (first | assumption | (exact keepS (by assumption) (by assumption)) | (exact keepS ((Nb.refl _).alloc _) (by assumption)) | (exact keepG (wp := W1.drew) hgrow ho1 ⟨(Nb.refl W1).drewN 1, n1, trivial⟩ (by assumption)) | (exact ⟨(Nb.refl _).drewN 1, n1, c0, c1, c2, c3, c4, c5, c6⟩))
      (first
        | (go_at_call 26; refine (HUA.out _ (codS hC1 (by assumption))).mono ?_; rintro e w26 ⟨v1, rfl, ho1, hn26⟩)
        | (go_at_call 28; refine (HSA.out _ (codS hC1 (by assumption))).mono ?_; rintro e w28 ⟨rfl, hn28⟩)
        | (refine step_append_lies _ (by rfl) _ _ _ (by rfl) _ 3 i0 _ 1 8 Tryd.underlying40 hi hz0 hz1 hz2 rfl (by omega) v1 _ _ (by rfl) (own_nb ho1 (hn28.alloc _)) ⟨w28.heap.size, 0, none⟩ 1 1 [.int .i64 (max 1 st)] (by rfl) (by rfl) (one_news _ _) (one_cell _) (by omega) (by have := HLEN.out; unfold maxLen; omega) (by have := HLEN.out; omega) (Nat.le_trans (Nat.le_trans hn26.size hn28.size) (by simp)) _ rfl ?_; intro gg cap w1 hown1 hgrow hat hlt))
    rename_i hH
    clear n1 c0 c1 c2 c3 c4 c5 c6
    have HS := Lib.hid hH
    have HCI := Lib.hid (cells_in hown1 HZ.out HM.out)
    clear hH hown1 hgrow hat hlt ho1 hn26 hn28
    go_wp2_with fail
    go_loop [41] (fun i => ∃ k : Nat, k ≤ zs.length + 1 ∧ i = .int .i64 k) (fun i => (zs.length + 1) - (intOf i).toNat)
    case atStart => exact ⟨0, by omega, rfl⟩
    case round =>
      obtain ⟨k, hk, rfl⟩ := hrel
      have hl2 := HLEN.out
      by_cases hlt : k < zs.length + 1
      · obtain ⟨z, hcell, z0, z1⟩ := HCI.out k hlt
        go_wp2_with fail
        go_round
        case rel => exact ⟨k + 1, by omega, by go_num⟩
        case measure => simp [intOf]; omega
      · obtain ⟨hN0, n1, c0, c1, c2, c3, c4, c5, c6⟩ := HS.out
        go_wp2_with fail
        cases g
        · refine (HGA.out _ (hC1.of_nb hN0)).mono ?_
          rintro e w12 ⟨rfl, hn12⟩
          have hS2 := keepS hn12 HS.out
          have HS2 := Lib.hid hS2
          clear n1 c0 c1 c2 c3 c4 c5 c6 hS2
          obtain ⟨hN2, n1, c0, c1, c2, c3, c4, c5, c6⟩ := HS2.out
          go_wp2_with fail
          refine (HUA.out _ (hC1.of_nb hN2)).mono ?_
          rintro e w13 ⟨v2, rfl, ho2, hn13⟩
          have hS3 := keepS hn13 HS2.out
          have HS3 := Lib.hid hS3
          clear n1 c0 c1 c2 c3 c4 c5 c6 hS3
          obtain ⟨A2, cc2, rfl⟩ := own_form ho2
          have hze : zs.length = 0 := by rw [HZN.out (by simp)]; rfl
          rw [hze]
          obtain ⟨hN3, n1, c0, c1, c2, c3, c4, c5, c6⟩ := HS3.out
          clear ho2 hk hl2 hlt hze
          go_wp2_with fail
          refine (HSA.out _ (hC1.of_nb hN3)).mono ?_
          rintro e w14 ⟨rfl, hn14⟩
          rw [HSN.out (by simp)]
          have hN4 := hN3.trans hn14
          clear n1 c0 c1 c2 c3 c4 c5 c6
          go_wp2_with fail
          refine (ilives_any _ (hC1.of_nb hN4)).mono ?_
          rintro e w15 ⟨rfl, hn15⟩
          have hN5 := hN1.trans (hN4.trans hn15)
          clear hN0 hN1 hN2 hN3 hN4 hn12 hn13 hn14 hn15 hC1
          go_wp2_with fail
          go_ret
          exact ⟨rfl, hN5⟩
        · refine (HGA.out _ (hC1.of_nb hN0)).mono ?_
          rintro e w12 ⟨rfl, hn12⟩
          have hN4 := hN0.trans hn12
          clear n1 c0 c1 c2 c3 c4 c5 c6 hk hl2 hlt
          go_wp2_with fail
          refine (ilives_any _ (hC1.of_nb hN4)).mono ?_
          rintro e w15 ⟨rfl, hn15⟩
          have hN5 := hN1.trans (hN4.trans hn15)
          clear hN0 hN1 hN4 hn12 hn15 hC1
          go_wp2_with fail
          go_ret
          exact ⟨rfl, hN5⟩
  · go_enter Tryd.func9, Tryd.ntmps9
    go_wp2_with fail
    obtain ⟨W1, hW1⟩ : ∃ W1, w.alloc (.cells #[.int .i64 op, .int .i64 rd, .int .i64 rs1, .int .i64 rs2, .int .i64 im, .bool aq, .bool rl] 23) = W1 := ⟨_, rfl⟩
    have hb1 := blk_made w _ hW1 rfl
    have hN1 : Nb w W1 := by rw [← hW1]; exact (Nb.refl _).alloc _
    rw [hW1]
    clear hW1
    have hC1 := hC.of_nb hN1
    clear hC
    obtain ⟨n1, c0, c1, c2, c3, c4, c5, c6⟩ := cells7 hb1
    clear hb1
    refine (HSz.out _).mono ?_
    rintro e w' ⟨rfl, rfl⟩
    go_upto_region 4 with (first
      | (go_at_call 17; refine (HLo.out _).mono ?_; rintro e w' ⟨rfl, rfl⟩)
      | (go_at_call 19; refine (HSt.out _).mono ?_; rintro e w' ⟨rfl, rfl⟩)
      | (go_at_call 21; refine (HAt.out _).mono ?_; rintro e w' ⟨rfl, rfl⟩))
    go_region_held3 (fun w' => Nb W1 w' ∧ w.heap.size < w'.heap.size ∧ w'.cell? ⟨w.heap.size, 0, none⟩ = some (.int .i64 op) ∧ w'.cell? ⟨w.heap.size, 1, none⟩ = some (.int .i64 rd) ∧ w'.cell? ⟨w.heap.size, 2, none⟩ = some (.int .i64 rs1) ∧ w'.cell? ⟨w.heap.size, 3, none⟩ = some (.int .i64 rs2) ∧ w'.cell? ⟨w.heap.size, 4, none⟩ = some (.int .i64 im) ∧ w'.cell? ⟨w.heap.size, 5, none⟩ = some (.bool aq) ∧ w'.cell? ⟨w.heap.size, 6, none⟩ = some (.bool rl))
      (first | assumption | (exact keepS (by assumption) (by assumption)) | (exact keepS ((Nb.refl _).alloc _) (by assumption)) | (exact keepG (wp := W1.drew) hgrow ho1 ⟨(Nb.refl W1).drewN 1, n1, trivial⟩ (by assumption)) | (exact ⟨(Nb.refl _).drewN 1, n1, c0, c1, c2, c3, c4, c5, c6⟩))
      (first
        | (go_at_call 26; refine (HUA.out _ (codS hC1 (by assumption))).mono ?_; rintro e w26 ⟨v1, rfl, ho1, hn26⟩)
        | (go_at_call 28; refine (HSA.out _ (codS hC1 (by assumption))).mono ?_; rintro e w28 ⟨rfl, hn28⟩)
        | (refine step_append_lies _ (by rfl) _ _ _ (by rfl) _ 3 i0 _ 1 8 Tryd.underlying40 hi hz0 hz1 hz2 rfl (by omega) v1 _ _ (by rfl) (own_nb ho1 (hn28.alloc _)) ⟨w28.heap.size, 0, none⟩ 1 1 [.int .i64 (max 1 st)] (by rfl) (by rfl) (one_news _ _) (one_cell _) (by omega) (by have := HLEN.out; unfold maxLen; omega) (by have := HLEN.out; omega) (Nat.le_trans (Nat.le_trans hn26.size hn28.size) (by simp)) _ rfl ?_; intro gg cap w1 hown1 hgrow hat hlt))
    rename_i hH
    clear n1 c0 c1 c2 c3 c4 c5 c6
    have HS := Lib.hid hH
    have HCI := Lib.hid (cells_in hown1 HZ.out HM.out)
    clear hH hown1 hgrow hat hlt ho1 hn26 hn28
    go_wp2_with fail
    go_loop [41] (fun i => ∃ k : Nat, k ≤ zs.length + 1 ∧ i = .int .i64 k) (fun i => (zs.length + 1) - (intOf i).toNat)
    case atStart => exact ⟨0, by omega, rfl⟩
    case round =>
      obtain ⟨k, hk, rfl⟩ := hrel
      have hl2 := HLEN.out
      by_cases hlt : k < zs.length + 1
      · obtain ⟨z, hcell, z0, z1⟩ := HCI.out k hlt
        go_wp2_with fail
        go_round
        case rel => exact ⟨k + 1, by omega, by go_num⟩
        case measure => simp [intOf]; omega
      · obtain ⟨hN0, n1, c0, c1, c2, c3, c4, c5, c6⟩ := HS.out
        go_wp2_with fail
        cases g
        · refine (HGA.out _ (hC1.of_nb hN0)).mono ?_
          rintro e w12 ⟨rfl, hn12⟩
          have hS2 := keepS hn12 HS.out
          have HS2 := Lib.hid hS2
          clear n1 c0 c1 c2 c3 c4 c5 c6 hS2
          obtain ⟨hN2, n1, c0, c1, c2, c3, c4, c5, c6⟩ := HS2.out
          go_wp2_with fail
          refine (HUA.out _ (hC1.of_nb hN2)).mono ?_
          rintro e w13 ⟨v2, rfl, ho2, hn13⟩
          have hS3 := keepS hn13 HS2.out
          have HS3 := Lib.hid hS3
          clear n1 c0 c1 c2 c3 c4 c5 c6 hS3
          obtain ⟨A2, cc2, rfl⟩ := own_form ho2
          have hze : zs.length = 0 := by rw [HZN.out (by simp)]; rfl
          rw [hze]
          obtain ⟨hN3, n1, c0, c1, c2, c3, c4, c5, c6⟩ := HS3.out
          clear ho2 hk hl2 hlt hze
          go_wp2_with fail
          refine (HSA.out _ (hC1.of_nb hN3)).mono ?_
          rintro e w14 ⟨rfl, hn14⟩
          rw [HSN.out (by simp)]
          have hN4 := hN3.trans hn14
          clear n1 c0 c1 c2 c3 c4 c5 c6
          go_wp2_with fail
          refine (ilives_any _ (hC1.of_nb hN4)).mono ?_
          rintro e w15 ⟨rfl, hn15⟩
          have hN5 := hN1.trans (hN4.trans hn15)
          clear hN0 hN1 hN2 hN3 hN4 hn12 hn13 hn14 hn15 hC1
          go_wp2_with fail
          go_ret
          exact ⟨rfl, hN5⟩
        · refine (HGA.out _ (hC1.of_nb hN0)).mono ?_
          rintro e w12 ⟨rfl, hn12⟩
          have hN4 := hN0.trans hn12
          clear n1 c0 c1 c2 c3 c4 c5 c6 hk hl2 hlt
          go_wp2_with fail
          refine (ilives_any _ (hC1.of_nb hN4)).mono ?_
          rintro e w15 ⟨rfl, hn15⟩
          have hN5 := hN1.trans (hN4.trans hn15)
          clear hN0 hN1 hN4 hn12 hn15 hC1
          go_wp2_with fail
          go_ret
          exact ⟨rfl, hN5⟩
  · go_enter Tryd.func9, Tryd.ntmps9
    go_wp2_with fail
    obtain ⟨W1, hW1⟩ : ∃ W1, w.alloc (.cells #[.int .i64 op, .int .i64 rd, .int .i64 rs1, .int .i64 rs2, .int .i64 im, .bool aq, .bool rl] 23) = W1 := ⟨_, rfl⟩
    have hb1 := blk_made w _ hW1 rfl
    have hN1 : Nb w W1 := by rw [← hW1]; exact (Nb.refl _).alloc _
    rw [hW1]
    clear hW1
    have hC1 := hC.of_nb hN1
    clear hC
    obtain ⟨n1, c0, c1, c2, c3, c4, c5, c6⟩ := cells7 hb1
    clear hb1
    refine (HSz.out _).mono ?_
    rintro e w' ⟨rfl, rfl⟩
    go_upto_region 4 with (first
      | (go_at_call 17; refine (HLo.out _).mono ?_; rintro e w' ⟨rfl, rfl⟩)
      | (go_at_call 19; refine (HSt.out _).mono ?_; rintro e w' ⟨rfl, rfl⟩)
      | (go_at_call 21; refine (HAt.out _).mono ?_; rintro e w' ⟨rfl, rfl⟩))
    go_region_held3 (fun w' => Nb W1 w' ∧ w.heap.size < w'.heap.size ∧ w'.cell? ⟨w.heap.size, 0, none⟩ = some (.int .i64 op) ∧ w'.cell? ⟨w.heap.size, 1, none⟩ = some (.int .i64 rd) ∧ w'.cell? ⟨w.heap.size, 2, none⟩ = some (.int .i64 rs1) ∧ w'.cell? ⟨w.heap.size, 3, none⟩ = some (.int .i64 rs2) ∧ w'.cell? ⟨w.heap.size, 4, none⟩ = some (.int .i64 im) ∧ w'.cell? ⟨w.heap.size, 5, none⟩ = some (.bool aq) ∧ w'.cell? ⟨w.heap.size, 6, none⟩ = some (.bool rl))
      (first | assumption | (exact keepS (by assumption) (by assumption)) | (exact keepS ((Nb.refl _).alloc _) (by assumption)) | (exact keepG (wp := W1.drew) hgrow ho1 ⟨(Nb.refl W1).drewN 1, n1, trivial⟩ (by assumption)) | (exact ⟨(Nb.refl _).drewN 1, n1, c0, c1, c2, c3, c4, c5, c6⟩))
      (first
        | (go_at_call 26; refine (HUA.out _ (codS hC1 (by assumption))).mono ?_; rintro e w26 ⟨v1, rfl, ho1, hn26⟩)
        | (go_at_call 28; refine (HSA.out _ (codS hC1 (by assumption))).mono ?_; rintro e w28 ⟨rfl, hn28⟩)
        | (refine step_append_lies _ (by rfl) _ _ _ (by rfl) _ 3 i0 _ 1 8 Tryd.underlying40 hi hz0 hz1 hz2 rfl (by omega) v1 _ _ (by rfl) (own_nb ho1 (hn28.alloc _)) ⟨w28.heap.size, 0, none⟩ 1 1 [.int .i64 (max 1 st)] (by rfl) (by rfl) (one_news _ _) (one_cell _) (by omega) (by have := HLEN.out; unfold maxLen; omega) (by have := HLEN.out; omega) (Nat.le_trans (Nat.le_trans hn26.size hn28.size) (by simp)) _ rfl ?_; intro gg cap w1 hown1 hgrow hat hlt))
    rename_i hH
    clear n1 c0 c1 c2 c3 c4 c5 c6
    have HS := Lib.hid hH
    have HCI := Lib.hid (cells_in hown1 HZ.out HM.out)
    clear hH hown1 hgrow hat hlt ho1 hn26 hn28
    go_wp2_with fail
    go_loop [41] (fun i => ∃ k : Nat, k ≤ zs.length + 1 ∧ i = .int .i64 k) (fun i => (zs.length + 1) - (intOf i).toNat)
    case atStart => exact ⟨0, by omega, rfl⟩
    case round =>
      obtain ⟨k, hk, rfl⟩ := hrel
      have hl2 := HLEN.out
      by_cases hlt : k < zs.length + 1
      · obtain ⟨z, hcell, z0, z1⟩ := HCI.out k hlt
        go_wp2_with fail
        go_round
        case rel => exact ⟨k + 1, by omega, by go_num⟩
        case measure => simp [intOf]; omega
      · obtain ⟨hN0, n1, c0, c1, c2, c3, c4, c5, c6⟩ := HS.out
        go_wp2_with fail
        cases g
        · refine (HGA.out _ (hC1.of_nb hN0)).mono ?_
          rintro e w12 ⟨rfl, hn12⟩
          have hS2 := keepS hn12 HS.out
          have HS2 := Lib.hid hS2
          clear n1 c0 c1 c2 c3 c4 c5 c6 hS2
          obtain ⟨hN2, n1, c0, c1, c2, c3, c4, c5, c6⟩ := HS2.out
          go_wp2_with fail
          refine (HUA.out _ (hC1.of_nb hN2)).mono ?_
          rintro e w13 ⟨v2, rfl, ho2, hn13⟩
          have hS3 := keepS hn13 HS2.out
          have HS3 := Lib.hid hS3
          clear n1 c0 c1 c2 c3 c4 c5 c6 hS3
          obtain ⟨A2, cc2, rfl⟩ := own_form ho2
          have hze : zs.length = 0 := by rw [HZN.out (by simp)]; rfl
          rw [hze]
          obtain ⟨hN3, n1, c0, c1, c2, c3, c4, c5, c6⟩ := HS3.out
          clear ho2 hk hl2 hlt hze
          go_wp2_with fail
          refine (HSA.out _ (hC1.of_nb hN3)).mono ?_
          rintro e w14 ⟨rfl, hn14⟩
          rw [HSN.out (by simp)]
          have hN4 := hN3.trans hn14
          clear n1 c0 c1 c2 c3 c4 c5 c6
          go_wp2_with fail
          refine (ilives_any _ (hC1.of_nb hN4)).mono ?_
          rintro e w15 ⟨rfl, hn15⟩
          have hN5 := hN1.trans (hN4.trans hn15)
          clear hN0 hN1 hN2 hN3 hN4 hn12 hn13 hn14 hn15 hC1
          go_wp2_with fail
          go_ret
          exact ⟨rfl, hN5⟩
        · refine (HGA.out _ (hC1.of_nb hN0)).mono ?_
          rintro e w12 ⟨rfl, hn12⟩
          have hN4 := hN0.trans hn12
          clear n1 c0 c1 c2 c3 c4 c5 c6 hk hl2 hlt
          go_wp2_with fail
          refine (ilives_any _ (hC1.of_nb hN4)).mono ?_
          rintro e w15 ⟨rfl, hn15⟩
          have hN5 := hN1.trans (hN4.trans hn15)
          clear hN0 hN1 hN4 hn12 hn15 hC1
          go_wp2_with fail
          go_ret
          exact ⟨rfl, hN5⟩
  · go_enter Tryd.func9, Tryd.ntmps9
    go_wp2_with fail
    obtain ⟨W1, hW1⟩ : ∃ W1, w.alloc (.cells #[.int .i64 op, .int .i64 rd, .int .i64 rs1, .int .i64 rs2, .int .i64 im, .bool aq, .bool rl] 23) = W1 := ⟨_, rfl⟩
    have hb1 := blk_made w _ hW1 rfl
    have hN1 : Nb w W1 := by rw [← hW1]; exact (Nb.refl _).alloc _
    rw [hW1]
    clear hW1
    have hC1 := hC.of_nb hN1
    clear hC
    obtain ⟨n1, c0, c1, c2, c3, c4, c5, c6⟩ := cells7 hb1
    clear hb1
    refine (HSz.out _).mono ?_
    rintro e w' ⟨rfl, rfl⟩
    go_upto_region 4 with (first
      | (go_at_call 17; refine (HLo.out _).mono ?_; rintro e w' ⟨rfl, rfl⟩)
      | (go_at_call 19; refine (HSt.out _).mono ?_; rintro e w' ⟨rfl, rfl⟩)
      | (go_at_call 21; refine (HAt.out _).mono ?_; rintro e w' ⟨rfl, rfl⟩))
    go_region_held3 (fun w' => Nb W1 w' ∧ w.heap.size < w'.heap.size ∧ w'.cell? ⟨w.heap.size, 0, none⟩ = some (.int .i64 op) ∧ w'.cell? ⟨w.heap.size, 1, none⟩ = some (.int .i64 rd) ∧ w'.cell? ⟨w.heap.size, 2, none⟩ = some (.int .i64 rs1) ∧ w'.cell? ⟨w.heap.size, 3, none⟩ = some (.int .i64 rs2) ∧ w'.cell? ⟨w.heap.size, 4, none⟩ = some (.int .i64 im) ∧ w'.cell? ⟨w.heap.size, 5, none⟩ = some (.bool aq) ∧ w'.cell? ⟨w.heap.size, 6, none⟩ = some (.bool rl))
      (first | assumption | (exact keepS (by assumption) (by assumption)) | (exact keepS ((Nb.refl _).alloc _) (by assumption)) | (exact keepG (wp := W1.drew) hgrow ho1 ⟨(Nb.refl W1).drewN 1, n1, trivial⟩ (by assumption)) | (exact ⟨(Nb.refl _).drewN 1, n1, c0, c1, c2, c3, c4, c5, c6⟩))
      (first
        | (go_at_call 26; refine (HUA.out _ (codS hC1 (by assumption))).mono ?_; rintro e w26 ⟨v1, rfl, ho1, hn26⟩)
        | (go_at_call 28; refine (HSA.out _ (codS hC1 (by assumption))).mono ?_; rintro e w28 ⟨rfl, hn28⟩)
        | (refine step_append_lies _ (by rfl) _ _ _ (by rfl) _ 3 i0 _ 1 8 Tryd.underlying40 hi hz0 hz1 hz2 rfl (by omega) v1 _ _ (by rfl) (own_nb ho1 (hn28.alloc _)) ⟨w28.heap.size, 0, none⟩ 1 1 [.int .i64 (max 1 st)] (by rfl) (by rfl) (one_news _ _) (one_cell _) (by omega) (by have := HLEN.out; unfold maxLen; omega) (by have := HLEN.out; omega) (Nat.le_trans (Nat.le_trans hn26.size hn28.size) (by simp)) _ rfl ?_; intro gg cap w1 hown1 hgrow hat hlt))
    rename_i hH
    clear n1 c0 c1 c2 c3 c4 c5 c6
    have HS := Lib.hid hH
    have HCI := Lib.hid (cells_in hown1 HZ.out HM.out)
    clear hH hown1 hgrow hat hlt ho1 hn26 hn28
    go_wp2_with fail
    go_loop [41] (fun i => ∃ k : Nat, k ≤ zs.length + 1 ∧ i = .int .i64 k) (fun i => (zs.length + 1) - (intOf i).toNat)
    case atStart => exact ⟨0, by omega, rfl⟩
    case round =>
      obtain ⟨k, hk, rfl⟩ := hrel
      have hl2 := HLEN.out
      by_cases hlt : k < zs.length + 1
      · obtain ⟨z, hcell, z0, z1⟩ := HCI.out k hlt
        go_wp2_with fail
        go_round
        case rel => exact ⟨k + 1, by omega, by go_num⟩
        case measure => simp [intOf]; omega
      · obtain ⟨hN0, n1, c0, c1, c2, c3, c4, c5, c6⟩ := HS.out
        go_wp2_with fail
        cases g
        · refine (HGA.out _ (hC1.of_nb hN0)).mono ?_
          rintro e w12 ⟨rfl, hn12⟩
          have hS2 := keepS hn12 HS.out
          have HS2 := Lib.hid hS2
          clear n1 c0 c1 c2 c3 c4 c5 c6 hS2
          obtain ⟨hN2, n1, c0, c1, c2, c3, c4, c5, c6⟩ := HS2.out
          go_wp2_with fail
          refine (HUA.out _ (hC1.of_nb hN2)).mono ?_
          rintro e w13 ⟨v2, rfl, ho2, hn13⟩
          have hS3 := keepS hn13 HS2.out
          have HS3 := Lib.hid hS3
          clear n1 c0 c1 c2 c3 c4 c5 c6 hS3
          obtain ⟨A2, cc2, rfl⟩ := own_form ho2
          have hze : zs.length = 0 := by rw [HZN.out (by simp)]; rfl
          rw [hze]
          obtain ⟨hN3, n1, c0, c1, c2, c3, c4, c5, c6⟩ := HS3.out
          clear ho2 hk hl2 hlt hze
          go_wp2_with fail
          refine (HSA.out _ (hC1.of_nb hN3)).mono ?_
          rintro e w14 ⟨rfl, hn14⟩
          rw [HSN.out (by simp)]
          have hN4 := hN3.trans hn14
          clear n1 c0 c1 c2 c3 c4 c5 c6
          go_wp2_with fail
          refine (ilives_any _ (hC1.of_nb hN4)).mono ?_
          rintro e w15 ⟨rfl, hn15⟩
          have hN5 := hN1.trans (hN4.trans hn15)
          clear hN0 hN1 hN2 hN3 hN4 hn12 hn13 hn14 hn15 hC1
          go_wp2_with fail
          go_ret
          exact ⟨rfl, hN5⟩
        · refine (HGA.out _ (hC1.of_nb hN0)).mono ?_
          rintro e w12 ⟨rfl, hn12⟩
          have hN4 := hN0.trans hn12
          clear n1 c0 c1 c2 c3 c4 c5 c6 hk hl2 hlt
          go_wp2_with fail
          refine (ilives_any _ (hC1.of_nb hN4)).mono ?_
          rintro e w15 ⟨rfl, hn15⟩
          have hN5 := hN1.trans (hN4.trans hn15)
          clear hN0 hN1 hN4 hn12 hn15 hC1
          go_wp2_with fail
          go_ret
          exact ⟨rfl, hN5⟩
  · go_enter Tryd.func9, Tryd.ntmps9
    go_wp2_with fail
    obtain ⟨W1, hW1⟩ : ∃ W1, w.alloc (.cells #[.int .i64 op, .int .i64 rd, .int .i64 rs1, .int .i64 rs2, .int .i64 im, .bool aq, .bool rl] 23) = W1 := ⟨_, rfl⟩
    have hb1 := blk_made w _ hW1 rfl
    have hN1 : Nb w W1 := by rw [← hW1]; exact (Nb.refl _).alloc _
    rw [hW1]
    clear hW1
    have hC1 := hC.of_nb hN1
    clear hC
    obtain ⟨n1, c0, c1, c2, c3, c4, c5, c6⟩ := cells7 hb1
    clear hb1
    refine (HSz.out _).mono ?_
    rintro e w' ⟨rfl, rfl⟩
    go_upto_region 4 with (first
      | (go_at_call 17; refine (HLo.out _).mono ?_; rintro e w' ⟨rfl, rfl⟩)
      | (go_at_call 19; refine (HSt.out _).mono ?_; rintro e w' ⟨rfl, rfl⟩)
      | (go_at_call 21; refine (HAt.out _).mono ?_; rintro e w' ⟨rfl, rfl⟩))
    go_region_held3 (fun w' => Nb W1 w' ∧ w.heap.size < w'.heap.size ∧ w'.cell? ⟨w.heap.size, 0, none⟩ = some (.int .i64 op) ∧ w'.cell? ⟨w.heap.size, 1, none⟩ = some (.int .i64 rd) ∧ w'.cell? ⟨w.heap.size, 2, none⟩ = some (.int .i64 rs1) ∧ w'.cell? ⟨w.heap.size, 3, none⟩ = some (.int .i64 rs2) ∧ w'.cell? ⟨w.heap.size, 4, none⟩ = some (.int .i64 im) ∧ w'.cell? ⟨w.heap.size, 5, none⟩ = some (.bool aq) ∧ w'.cell? ⟨w.heap.size, 6, none⟩ = some (.bool rl))
      (first | assumption | (exact keepS (by assumption) (by assumption)) | (exact keepS ((Nb.refl _).alloc _) (by assumption)) | (exact keepG (wp := W1.drew) hgrow ho1 ⟨(Nb.refl W1).drewN 1, n1, trivial⟩ (by assumption)) | (exact ⟨(Nb.refl _).drewN 1, n1, c0, c1, c2, c3, c4, c5, c6⟩))
      (first
        | (go_at_call 26; refine (HUA.out _ (codS hC1 (by assumption))).mono ?_; rintro e w26 ⟨v1, rfl, ho1, hn26⟩)
        | (go_at_call 28; refine (HSA.out _ (codS hC1 (by assumption))).mono ?_; rintro e w28 ⟨rfl, hn28⟩)
        | (refine step_append_lies _ (by rfl) _ _ _ (by rfl) _ 3 i0 _ 1 8 Tryd.underlying40 hi hz0 hz1 hz2 rfl (by omega) v1 _ _ (by rfl) (own_nb ho1 (hn28.alloc _)) ⟨w28.heap.size, 0, none⟩ 1 1 [.int .i64 (max 1 st)] (by rfl) (by rfl) (one_news _ _) (one_cell _) (by omega) (by have := HLEN.out; unfold maxLen; omega) (by have := HLEN.out; omega) (Nat.le_trans (Nat.le_trans hn26.size hn28.size) (by simp)) _ rfl ?_; intro gg cap w1 hown1 hgrow hat hlt))
    rename_i hH
    clear n1 c0 c1 c2 c3 c4 c5 c6
    have HS := Lib.hid hH
    have HCI := Lib.hid (cells_in hown1 HZ.out HM.out)
    clear hH hown1 hgrow hat hlt ho1 hn26 hn28
    go_wp2_with fail
    go_loop [41] (fun i => ∃ k : Nat, k ≤ zs.length + 1 ∧ i = .int .i64 k) (fun i => (zs.length + 1) - (intOf i).toNat)
    case atStart => exact ⟨0, by omega, rfl⟩
    case round =>
      obtain ⟨k, hk, rfl⟩ := hrel
      have hl2 := HLEN.out
      by_cases hlt : k < zs.length + 1
      · obtain ⟨z, hcell, z0, z1⟩ := HCI.out k hlt
        go_wp2_with fail
        go_round
        case rel => exact ⟨k + 1, by omega, by go_num⟩
        case measure => simp [intOf]; omega
      · obtain ⟨hN0, n1, c0, c1, c2, c3, c4, c5, c6⟩ := HS.out
        go_wp2_with fail
        cases g
        · refine (HGA.out _ (hC1.of_nb hN0)).mono ?_
          rintro e w12 ⟨rfl, hn12⟩
          have hS2 := keepS hn12 HS.out
          have HS2 := Lib.hid hS2
          clear n1 c0 c1 c2 c3 c4 c5 c6 hS2
          obtain ⟨hN2, n1, c0, c1, c2, c3, c4, c5, c6⟩ := HS2.out
          go_wp2_with fail
          refine (HUA.out _ (hC1.of_nb hN2)).mono ?_
          rintro e w13 ⟨v2, rfl, ho2, hn13⟩
          have hS3 := keepS hn13 HS2.out
          have HS3 := Lib.hid hS3
          clear n1 c0 c1 c2 c3 c4 c5 c6 hS3
          obtain ⟨A2, cc2, rfl⟩ := own_form ho2
          have hze : zs.length = 0 := by rw [HZN.out (by simp)]; rfl
          rw [hze]
          obtain ⟨hN3, n1, c0, c1, c2, c3, c4, c5, c6⟩ := HS3.out
          clear ho2 hk hl2 hlt hze
          go_wp2_with fail
          refine (HSA.out _ (hC1.of_nb hN3)).mono ?_
          rintro e w14 ⟨rfl, hn14⟩
          rw [HSN.out (by simp)]
          have hN4 := hN3.trans hn14
          clear n1 c0 c1 c2 c3 c4 c5 c6
          go_wp2_with fail
          refine (ilives_any _ (hC1.of_nb hN4)).mono ?_
          rintro e w15 ⟨rfl, hn15⟩
          have hN5 := hN1.trans (hN4.trans hn15)
          clear hN0 hN1 hN2 hN3 hN4 hn12 hn13 hn14 hn15 hC1
          go_wp2_with fail
          go_ret
          exact ⟨rfl, hN5⟩
        · refine (HGA.out _ (hC1.of_nb hN0)).mono ?_
          rintro e w12 ⟨rfl, hn12⟩
          have hN4 := hN0.trans hn12
          clear n1 c0 c1 c2 c3 c4 c5 c6 hk hl2 hlt
          go_wp2_with fail
          refine (ilives_any _ (hC1.of_nb hN4)).mono ?_
          rintro e w15 ⟨rfl, hn15⟩
          have hN5 := hN1.trans (hN4.trans hn15)
          clear hN0 hN1 hN4 hn12 hn15 hC1
          go_wp2_with fail
          go_ret
          exact ⟨rfl, hN5⟩
  · go_enter Tryd.func9, Tryd.ntmps9
    go_wp2_with fail
    obtain ⟨W1, hW1⟩ : ∃ W1, w.alloc (.cells #[.int .i64 op, .int .i64 rd, .int .i64 rs1, .int .i64 rs2, .int .i64 im, .bool aq, .bool rl] 23) = W1 := ⟨_, rfl⟩
    have hb1 := blk_made w _ hW1 rfl
    have hN1 : Nb w W1 := by rw [← hW1]; exact (Nb.refl _).alloc _
    rw [hW1]
    clear hW1
    have hC1 := hC.of_nb hN1
    clear hC
    obtain ⟨n1, c0, c1, c2, c3, c4, c5, c6⟩ := cells7 hb1
    clear hb1
    refine (HSz.out _).mono ?_
    rintro e w' ⟨rfl, rfl⟩
    go_upto_region 4 with (first
      | (go_at_call 17; refine (HLo.out _).mono ?_; rintro e w' ⟨rfl, rfl⟩)
      | (go_at_call 19; refine (HSt.out _).mono ?_; rintro e w' ⟨rfl, rfl⟩)
      | (go_at_call 21; refine (HAt.out _).mono ?_; rintro e w' ⟨rfl, rfl⟩))
    go_region_held3 (fun w' => Nb W1 w' ∧ w.heap.size < w'.heap.size ∧ w'.cell? ⟨w.heap.size, 0, none⟩ = some (.int .i64 op) ∧ w'.cell? ⟨w.heap.size, 1, none⟩ = some (.int .i64 rd) ∧ w'.cell? ⟨w.heap.size, 2, none⟩ = some (.int .i64 rs1) ∧ w'.cell? ⟨w.heap.size, 3, none⟩ = some (.int .i64 rs2) ∧ w'.cell? ⟨w.heap.size, 4, none⟩ = some (.int .i64 im) ∧ w'.cell? ⟨w.heap.size, 5, none⟩ = some (.bool aq) ∧ w'.cell? ⟨w.heap.size, 6, none⟩ = some (.bool rl))
      (first | assumption | (exact keepS (by assumption) (by assumption)) | (exact keepS ((Nb.refl _).alloc _) (by assumption)) | (exact keepG (wp := W1.drew) hgrow ho1 ⟨(Nb.refl W1).drewN 1, n1, trivial⟩ (by assumption)) | (exact ⟨(Nb.refl _).drewN 1, n1, c0, c1, c2, c3, c4, c5, c6⟩))
      (first
        | (go_at_call 26; refine (HUA.out _ (codS hC1 (by assumption))).mono ?_; rintro e w26 ⟨v1, rfl, ho1, hn26⟩)
        | (go_at_call 28; refine (HSA.out _ (codS hC1 (by assumption))).mono ?_; rintro e w28 ⟨rfl, hn28⟩)
        | (refine step_append_lies _ (by rfl) _ _ _ (by rfl) _ 3 i0 _ 1 8 Tryd.underlying40 hi hz0 hz1 hz2 rfl (by omega) v1 _ _ (by rfl) (own_nb ho1 (hn28.alloc _)) ⟨w28.heap.size, 0, none⟩ 1 1 [.int .i64 (max 1 st)] (by rfl) (by rfl) (one_news _ _) (one_cell _) (by omega) (by have := HLEN.out; unfold maxLen; omega) (by have := HLEN.out; omega) (Nat.le_trans (Nat.le_trans hn26.size hn28.size) (by simp)) _ rfl ?_; intro gg cap w1 hown1 hgrow hat hlt))
    rename_i hH
    clear n1 c0 c1 c2 c3 c4 c5 c6
    have HS := Lib.hid hH
    have HCI := Lib.hid (cells_in hown1 HZ.out HM.out)
    clear hH hown1 hgrow hat hlt ho1 hn26 hn28
    go_wp2_with fail
    go_loop [41] (fun i => ∃ k : Nat, k ≤ zs.length + 1 ∧ i = .int .i64 k) (fun i => (zs.length + 1) - (intOf i).toNat)
    case atStart => exact ⟨0, by omega, rfl⟩
    case round =>
      obtain ⟨k, hk, rfl⟩ := hrel
      have hl2 := HLEN.out
      by_cases hlt : k < zs.length + 1
      · obtain ⟨z, hcell, z0, z1⟩ := HCI.out k hlt
        go_wp2_with fail
        go_round
        case rel => exact ⟨k + 1, by omega, by go_num⟩
        case measure => simp [intOf]; omega
      · obtain ⟨hN0, n1, c0, c1, c2, c3, c4, c5, c6⟩ := HS.out
        go_wp2_with fail
        cases g
        · refine (HGA.out _ (hC1.of_nb hN0)).mono ?_
          rintro e w12 ⟨rfl, hn12⟩
          have hS2 := keepS hn12 HS.out
          have HS2 := Lib.hid hS2
          clear n1 c0 c1 c2 c3 c4 c5 c6 hS2
          obtain ⟨hN2, n1, c0, c1, c2, c3, c4, c5, c6⟩ := HS2.out
          go_wp2_with fail
          refine (HUA.out _ (hC1.of_nb hN2)).mono ?_
          rintro e w13 ⟨v2, rfl, ho2, hn13⟩
          have hS3 := keepS hn13 HS2.out
          have HS3 := Lib.hid hS3
          clear n1 c0 c1 c2 c3 c4 c5 c6 hS3
          obtain ⟨A2, cc2, rfl⟩ := own_form ho2
          have hze : zs.length = 0 := by rw [HZN.out (by simp)]; rfl
          rw [hze]
          obtain ⟨hN3, n1, c0, c1, c2, c3, c4, c5, c6⟩ := HS3.out
          clear ho2 hk hl2 hlt hze
          go_wp2_with fail
          refine (HSA.out _ (hC1.of_nb hN3)).mono ?_
          rintro e w14 ⟨rfl, hn14⟩
          rw [HSN.out (by simp)]
          have hN4 := hN3.trans hn14
          clear n1 c0 c1 c2 c3 c4 c5 c6
          go_wp2_with fail
          refine (ilives_any _ (hC1.of_nb hN4)).mono ?_
          rintro e w15 ⟨rfl, hn15⟩
          have hN5 := hN1.trans (hN4.trans hn15)
          clear hN0 hN1 hN2 hN3 hN4 hn12 hn13 hn14 hn15 hC1
          go_wp2_with fail
          go_ret
          exact ⟨rfl, hN5⟩
        · refine (HGA.out _ (hC1.of_nb hN0)).mono ?_
          rintro e w12 ⟨rfl, hn12⟩
          have hN4 := hN0.trans hn12
          clear n1 c0 c1 c2 c3 c4 c5 c6 hk hl2 hlt
          go_wp2_with fail
          refine (ilives_any _ (hC1.of_nb hN4)).mono ?_
          rintro e w15 ⟨rfl, hn15⟩
          have hN5 := hN1.trans (hN4.trans hn15)
          clear hN0 hN1 hN4 hn12 hn15 hC1
          go_wp2_with fail
          go_ret
          exact ⟨rfl, hN5⟩
/-! The row's step. -/
set_option maxRecDepth 100000 in
theorem lifted (os : Os) (started : os.Started) (H : Type) (enc : TypeId × Value → H) :
    ReturnsInHanded {} Tryd.checked os 9 .any (fun w args => (Rows.instKindsSpec.pre enc Tryd.prog Tryd.f9 [] false w args ∧ laidMetH Tryd.prog laidL w) ∧ sizedMet enc Tryd.prog Tryd.f9 (OpenSpec.ofChange Rows.instKindsSpec) false w args)
      (Rows.instKindsSpec.post enc Tryd.prog Tryd.f9 false true false false) := by
  refine returnsInHanded_of_change_and (C := Tryd.checked) (X := fun w _ => laidMetH Tryd.prog laidL w) (fun _ _ _ hh h => h.of_heap hh) own started (by kernel_rfl) Tryd.func9
    (ChangeSpec.witness_shaped (enc := enc) (C := Tryd.checked) (os := os) (X := fun w _ => laidMetH Tryd.prog laidL w) false (World.doorLaid Tryd.prog 400 os) #[.agg #[.int .i64 0, .int .i64 0, .int .i64 0, .int .i64 0, .int .i64 0, .bool false, .bool false]] 8 rfl (World.shaped_of_RefB (by kernel_rfl) (by kernel_rfl)) (by kernel_rfl) (by kernel_rfl) (by kernel_rfl) (door_met os _)) ?_
  intro W base args ds gs before hval0 hW _ _ hL _
  have hval : ∀ (j : Nat) t v, Tryd.f9.params[j]? = some t → args[j]? = some v → Value.okWide Tryd.prog W .any base t v := hval0
  have hW' := hW
  obtain ⟨p, q, hA0, hV, rfl, hfz, hnd⟩ := hW
  have hA : DataW.TrodAll enc Tryd.prog W 0 (fun _ => true) true Tryd.f9.params.toList args.toList ds p := hA0
  rw [Tryd.params9] at hA hval
  obtain ⟨v0, vs0, d0, ds0, p0, q0, hargs0, rfl, rfl, h0, r0⟩ := trodAll_cons hA
  obtain ⟨rfl, rfl, rfl⟩ := trodAll_nil r0
  obtain rfl : args = #[v0] := by cases args; simp_all
  obtain ⟨rfl, rfl⟩ := trodVars_none hV
  obtain ⟨op0, rd0, rsa0, rsb0, im0, aq0, rl0, rfl, rfl, rfl, wo0, wr0, wa0, wb0, wi0⟩ := open_inst (hval 0 23 v0 rfl rfl) h0
  clear hA0 hval0
  simp only [List.append_nil] at hW'
  refine (walk op0 rd0 rsa0 rsb0 im0 aq0 rl0 (i64_of wi0) W (cod_of_laid hL)).mono fun e W' ⟨he, hg⟩ => ?_
  subst he
  exact ⟨_, rfl, post_of_nb (pa := []) (pv := []) hW' (fun _ _ _ => (trodAll_cons_mk (shut_bool Tryd.underlying4 _) trodAll_mk0)) (fun sp _ => (trodAll_cons_mk (shut_inst wo0 wr0 wa0 wb0 wi0) trodAll_mk0)) (fun _ _ => rfl) rfl
    hg (ok_one (by kernel_rfl) rfl (okWide_bool_mk Tryd.underlying4 _))⟩
theorem over : Rows.InstKindsSaid :=
  OpenClaim.holds_of_wide 9 Tryd.f9 rfl rfl rfl rfl rfl rfl rfl ⟨rfl, rfl, rfl, rfl, rfl⟩ rfl rfl rfl rfl rfl (by kernel_rfl) Tryd.func9 (by kernel_rfl)
    (of_decide_eq_true (by kernel_rfl)) (by unfold Func.isWrapper; first | (rw [if_pos (by decide +kernel)]; kernel_rfl) | (rw [if_neg (by decide +kernel)]; exact ⟨rfl, rfl⟩))
    (fun os started H enc _ => lifted os started H enc)
/-- The statement: the tied card. -/
theorem proved : Rows.InstKindsCardSaid :=
  Claim7.holds_tied_plain_at .later [] [.data] true (true, "59583f0381c974019f2f58a01e615cf0562425f09e5f2187988eb4de7ae9e5c0") false
    over (fun _ h => by cases h) (by kernel_rfl) (fun _ h => by cases h) instKinds_row_tie rfl ⟨rfl, rfl⟩ (by kernel_rfl) rfl
    (fun f fn hf hfn => by
      obtain rfl : f = 9 := Option.some.inj ((show Tryd.prog.funcNamed "postbag/postbaglaw02.InstKinds" = some 9 by kernel_rfl).symm.trans hf) |>.symm
      obtain rfl : fn = Tryd.f9 := (Option.some.inj (Tryd.func9.symm.trans hfn)).symm
      exact ⟨by kernel_rfl, fun j t ht => by
        rw [Tryd.params9] at ht
        have hm : t ∈ [23] := by simpa using Array.mem_of_getElem? ht
        have hall : ([23].all fun u => !Tryd.prog.wantsStandIn u) = true := by kernel_rfl
        exact (show Tryd.prog.wantsStandIn t = false by simpa using List.all_eq_true.1 hall t hm)⟩)
    (by kernel_rfl)
#print axioms proved
end Go.Proofs.YtcbaokgdpmjhgaaDoor.instKinds

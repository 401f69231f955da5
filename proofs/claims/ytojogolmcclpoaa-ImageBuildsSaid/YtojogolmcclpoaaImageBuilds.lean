/-
  Proved here: what an image has at first the code says as the reference says it; another layout both refuse. No condition.
-/
import Derived.Test.YtojogolmcclpoaaUl
import Derived.Test.YtojogolmcclpoaaZp
import Derived.Laws.BytesArg
namespace Go.Proofs.Ytojogolmcclpoaa.imageBuilds
open Go.ChangeShapes Go.WideShapes Go.ChangeAt Go.RowKit Go.Deep Go.Joins
set_option linter.unusedVariables false
set_option linter.unusedSimpArgs false
set_option maxRecDepth 100000
set_option maxHeartbeats 4000000
section
variable {H : Type} {enc : TypeId × Value → H} {w : World} {base : Nat} {spare : Nat → Bool} {held : Bool}
theorem plain_addr {w : World} {a : Addr} {v : Value} (h : w.cell? a = some v) : a = ⟨a.block, a.off, none⟩ := by
  cases a with
  | mk b o s =>
    cases s with
    | none => rfl
    | some s =>
      unfold World.cell? at h
      split at h
      · simp at h
      · cases h
theorem open_u32s {r : Reach} {b0 : Nat} {v : Value} {d : DataW H} {p : List MemPlace} (hv : Value.okWide Try.prog w r b0 37 v) (h : DataW.Trod enc Try.prog w base spare held 37 v d p) :
    ∃ xs : List Int, U32R w v xs ∧ xs.length ≤ 9223372036854775807 := by
  obtain ⟨a1, len1, cap1, rfl⟩ := okWide_slice Try.underlying37 hv
  obtain ⟨fuel, hf⟩ := h
  rcases open_ints Try.underlying37 Try.underlying55 (by kernel_rfl) hf with ⟨hcs, -⟩ | ⟨a, len, cap, zs, hcs, _, hl, hm, hz, -, hcell, hwz⟩
  · simp [Value.cells] at hcs
    obtain ⟨rfl, rfl, rfl⟩ := hcs
    exact ⟨[], ⟨none, 0, rfl, by simp, fun i x h => by simp at h⟩, by simp⟩
  · simp [Value.cells] at hcs
    obtain ⟨rfl, rfl, rfl⟩ := hcs
    have hle : len1 ≤ zs.length := by rw [hz]; split <;> omega
    have hbl : (zs.take len1).length = len1 := by simp; omega
    refine ⟨zs.take len1, ⟨some a, cap1, by rw [hbl], by rw [hbl]; exact hl, fun i x hx => ?_⟩, by rw [hbl]; unfold maxLen at hm; omega⟩
    rw [List.getElem?_take] at hx
    split at hx
    · rename_i hi
      have h0 := hcell 0 (by omega)
      have h1 := hcell i (by omega)
      have ha := plain_addr h0
      rw [Addr.add_zero'] at ha
      rw [ha, addr_add, List.getD_eq_getElem?_getD, hx] at h1
      have hw := hwz x (List.mem_of_getElem? hx)
      have hw2 : 0 ≤ x ∧ x < 4294967296 := by
        simp [Lit.wf, IntKind.min, IntKind.max, IntKind.signed, IntKind.bits] at hw
        omega
      exact ⟨a.block, a.off, by rw [← ha], h1, hw2⟩
    · cases hx
end
theorem str_own {w : World} {g n cap : Nat} {bs : By} (h : w.heap[g]? = some (.cells (Lib.byteCells bs).toArray 5 (0, 0))) (hn : bs.length = n) :
    (convert 44 9 (.slice (some ⟨g, 0, none⟩) n cap)).run Try.prog w = .ok (.string ⟨bs.toArray⟩) w := by
  subst hn
  refine run_convert_bytes_back w _ _ 5 _ cap bs Try.underlying44 Try.underlying5 Try.underlying9 fun j hj => ?_
  rw [addr_add, cell_of_row _ _ _ _ _ _ h]
  simp [Lib.byteCells, hj]
theorem drew1R {a b : World} (h : Nb a b) : Nb a b.drew := h.drewN 1
open Classical in
/-- The error of a layout. -/
noncomputable def errB (c : Cf) (l : Ly) (n : Int) : Int := if layE c n l.slots = 0 ∧ layA c n l.slots = l then 0 else 2
theorem u32_nb {w w' : World} {v : Value} {xs : List Int} (h : U32R w v xs) (k : Nb w w') : U32R w' v xs := by
  obtain ⟨A, cap, hv, hc, hx⟩ := h
  refine ⟨A, cap, hv, hc, fun i x hi => ?_⟩
  obtain ⟨b, o, h1, h2, h3⟩ := hx i x hi
  exact ⟨b, o, h1, k.cell h2, h3⟩
theorem okE {c : Cf} {code slots : Int} (h : layE c code slots = 0) : okL c code slots = true := by
  unfold layE at h
  split at h
  · assumption
  · cases h
theorem bld_err (c : Cf) (l : Ly) (v : Value) (xs : List Int) (W : World) (hx : U32R W v xs) (w : World) (hw : Nb W w) :
    Calls Try.prog 14 #[c.v, l.v, v] w fun e w' => ∃ pv, e = .returned (.tuple #[pv, .int .i64 (errB c l xs.length)]) ∧ Nb w w' := by
  by_cases h : layE c xs.length l.slots = 0 ∧ layA c xs.length l.slots = l
  · have he : errB c l xs.length = 0 := if_pos h
    rw [he]
    have hok := okE h.1
    obtain ⟨C, S, A, B, W0, x0, x4, rfl, e1, e2, -, -⟩ := okL_nat hok
    have hl : l = layN C S A B W0 := by
      rw [← h.2]; unfold layA; rw [hok, if_pos rfl, e1, e2]; rfl
    rw [e2, e1] at hok
    rw [hl]
    refine (build_ok C S A B W0 x0 x4 v xs (by omega) hok w (u32_nb hx hw)).mono ?_
    rintro e w' ⟨p, b, rfl, -, hn⟩
    exact ⟨_, rfl, hn⟩
  · have he : errB c l xs.length = 2 := if_neg h
    rw [he]
    refine (build_no c l v xs w (u32_nb hx hw) (by by_cases h1 : layE c xs.length l.slots = 0; exact .inr fun h2 => h ⟨h1, h2⟩; exact .inl h1)).mono ?_
    rintro e w' ⟨rfl, hn⟩
    exact ⟨_, rfl, hn⟩
theorem rbld_err (c : Cf) (l : Ly) (v : Value) (xs : List Int) (W : World) (hx : U32R W v xs) (w : World) (hw : Nb W w) :
    Calls Try.prog 15 #[c.v, l.v, v] w fun e w' => ∃ pv, e = .returned (.tuple #[pv, .int .i64 (errB c l xs.length)]) ∧ Nb w w' := by
  by_cases h : layE c xs.length l.slots = 0 ∧ layA c xs.length l.slots = l
  · have he : errB c l xs.length = 0 := if_pos h
    rw [he]
    have hok := okE h.1
    obtain ⟨C, S, A, B, W0, x0, x4, rfl, e1, e2, -, -⟩ := okL_nat hok
    have hl : l = layN C S A B W0 := by
      rw [← h.2]; unfold layA; rw [hok, if_pos rfl, e1, e2]; rfl
    rw [e2, e1] at hok
    rw [hl]
    refine (rbuild_ok C S A B W0 x0 x4 v xs (by omega) hok w (u32_nb hx hw)).mono ?_
    rintro e w' ⟨p, b, rfl, -, hn⟩
    exact ⟨_, rfl, hn⟩
  · have he : errB c l xs.length = 2 := if_neg h
    rw [he]
    refine (rbuild_no c l v xs w (u32_nb hx hw) (by by_cases h1 : layE c xs.length l.slots = 0; exact .inr fun h2 => h ⟨h1, h2⟩; exact .inl h1)).mono ?_
    rintro e w' ⟨rfl, hn⟩
    exact ⟨_, rfl, hn⟩
theorem walk (c : Cf) (v : Value) (xs : List Int) (slots : Int) (o : Ly) (hc : c.In) (hl : xs.length ≤ 9223372036854775807) (h2 : IR slots) (ho : o.In) (w : World) (hx : U32R w v xs) :
    Calls Try.prog 4 #[c.v, v, .int .i64 slots, o.v] w fun e w' => e = .returned (.bool true) ∧ Nb w w' := by
  have hlives := Lib.hid (fun w => lives_any w)
  have hB1 := bld_err c o v xs w hx
  have hR1 := rbld_err c o v xs w hx
  obtain ⟨E, hE⟩ : ∃ e, errB c o xs.length = e := ⟨_, rfl⟩
  simp only [hE] at hB1 hR1
  clear hE hc h2 ho
  have hlay := fun w => rlay_any c xs.length slots w
  have hcase : (∃ bs : By, bs.length ≤ 16777216 ∧ (∀ w', Nb w w' → Calls Try.prog 14 #[c.v, (layA c xs.length slots).v, v] w' (BuiltM 60 bs w')) ∧ (∀ w', Nb w w' → Calls Try.prog 15 #[c.v, (layA c xs.length slots).v, v] w' (BuiltM 49 bs w'))) ∨
      ((∀ w', Nb w w' → Calls Try.prog 14 #[c.v, (layA c xs.length slots).v, v] w' fun e w'' => e = .returned (.tuple #[.pointer none, .int .i64 2]) ∧ Nb w' w'') ∧ (∀ w', Nb w w' → Calls Try.prog 15 #[c.v, (layA c xs.length slots).v, v] w' fun e w'' => e = .returned (.tuple #[.pointer none, .int .i64 2]) ∧ Nb w' w'')) := by
    cases hok : okL c xs.length slots with
    | true =>
      refine .inl ?_
      obtain ⟨C, S, A, B, W0, x0, x4, rfl, e1, rfl, -, hC, hS, hA, hB, hW⟩ := okL_nat hok
      have e2 : xs.length = C := by omega
      rw [e1] at hok
      have hly : layA ⟨x0, A, B, W0, x4⟩ xs.length S = layN C S A B W0 := by unfold layA; rw [e1, hok, if_pos rfl]; rfl
      have hprod : 8 * (12 + S + 2 * W0) * A ≤ 18528 * 64 := Nat.mul_le_mul (by omega) hA.2
      refine ⟨bldN C S A B W0 xs, ?_, fun w' hw => ?_, fun w' hw => ?_⟩
      · have h1 : (bldN C S A B W0 xs).length = (4 * C + 63) / 64 * 64 + 64 + 8 * (12 + S + 2 * W0) * A + 256 * B := by
          unfold bldN bld
          have h2 : (bW (List.replicate ((4 * C + 63) / 64 * 64 + 64 + 8 * (12 + S + 2 * W0) * A + 256 * B) 0) xs xs.length).length = (4 * C + 63) / 64 * 64 + 64 + 8 * (12 + S + 2 * W0) * A + 256 * B := by
            rw [bW_len _ _ _ (by rw [List.length_replicate]; omega), List.length_replicate]
          have h3 : (lay (bW (List.replicate ((4 * C + 63) / 64 * 64 + 64 + 8 * (12 + S + 2 * W0) * A + 256 * B) 0) xs xs.length) ((4 * C + 63) / 64 * 64) (leB 8 1)).length = (4 * C + 63) / 64 * 64 + 64 + 8 * (12 + S + 2 * W0) * A + 256 * B := by
            rw [lay_len _ _ _ (by rw [leB_len, h2]; omega), h2]
          have h4 : (lay (lay (bW (List.replicate ((4 * C + 63) / 64 * 64 + 64 + 8 * (12 + S + 2 * W0) * A + 256 * B) 0) xs xs.length) ((4 * C + 63) / 64 * 64) (leB 8 1)) ((4 * C + 63) / 64 * 64 + 16) (leB 8 1)).length = (4 * C + 63) / 64 * 64 + 64 + 8 * (12 + S + 2 * W0) * A + 256 * B := by
            rw [lay_len _ _ _ (by rw [leB_len, h3]; omega), h3]
          rw [bB_len _ _ _ (by rw [h4]; omega), h4]
        omega
      · rw [hly]
        exact build_ok C S A B W0 x0 x4 v xs e2 hok w' (u32_nb hx hw)
      · rw [hly]
        exact rbuild_ok C S A B W0 x0 x4 v xs e2 hok w' (u32_nb hx hw)
    | false =>
      refine .inr ?_
      have hly : layA c xs.length slots = Ly.zero := by unfold layA; rw [hok]; rfl
      rw [hly]
      have hz : layE c xs.length Ly.zero.slots ≠ 0 := by
        intro h
        have h3 := okE h
        unfold okL at h3
        rw [Bool.and_eq_true, Bool.and_eq_true] at h3
        obtain ⟨-, -, h3⟩ := h3
        revert h3
        decide
      exact ⟨fun w' hw => build_no c Ly.zero v xs w' (u32_nb hx hw) (.inl hz), fun w' hw => rbuild_no c Ly.zero v xs w' (u32_nb hx hw) (.inl hz)⟩
  obtain ⟨q, hq⟩ : ∃ q, layA c xs.length slots = q := ⟨_, rfl⟩
  obtain ⟨F, hF⟩ : ∃ q, layE c xs.length slots = q := ⟨_, rfl⟩
  simp only [hq, hF] at hlay hcase
  clear hq hF
  obtain ⟨A, cap, rfl, hcap, -⟩ := hx
  obtain ⟨N, hN⟩ : ∃ N, xs.length = N := ⟨_, rfl⟩
  simp only [hN] at hlay hcase hB1 hR1 hl hcap ⊢
  clear hN xs
  obtain ⟨x0, x1, x2, x3, x4⟩ := c
  obtain ⟨o0, o1, o2, o3, o4, o5, o6, o7⟩ := o
  obtain ⟨m0, m1, m2, m3, m4, m5, m6, m7⟩ := q
  change ∀ w', Nb w w' → Calls Try.prog 14 #[.agg #[.int .i64 x0, .int .i64 x1, .int .i64 x2, .int .i64 x3, .int .i64 x4], .agg #[.int .u64 o0, .int .u64 o1, .int .u64 o2, .int .u64 o3, .int .u64 o4, .int .u64 o5, .int .u64 o6, .int .i64 o7], .slice A N cap] w' _ at hB1
  change ∀ w', Nb w w' → Calls Try.prog 15 #[.agg #[.int .i64 x0, .int .i64 x1, .int .i64 x2, .int .i64 x3, .int .i64 x4], .agg #[.int .u64 o0, .int .u64 o1, .int .u64 o2, .int .u64 o3, .int .u64 o4, .int .u64 o5, .int .u64 o6, .int .i64 o7], .slice A N cap] w' _ at hR1
  change ∀ w, Calls Try.prog 8 #[.agg #[.int .i64 x0, .int .i64 x1, .int .i64 x2, .int .i64 x3, .int .i64 x4], .int .i64 (N : Int), .int .i64 slots] w fun e w' => e = .returned (.tuple #[.agg #[.int .u64 m0, .int .u64 m1, .int .u64 m2, .int .u64 m3, .int .u64 m4, .int .u64 m5, .int .u64 m6, .int .i64 m7], .int .i64 F]) ∧ Nb w w' at hlay
  change (∃ bs : By, bs.length ≤ 16777216 ∧ (∀ w', Nb w w' → Calls Try.prog 14 #[.agg #[.int .i64 x0, .int .i64 x1, .int .i64 x2, .int .i64 x3, .int .i64 x4], .agg #[.int .u64 m0, .int .u64 m1, .int .u64 m2, .int .u64 m3, .int .u64 m4, .int .u64 m5, .int .u64 m6, .int .i64 m7], .slice A N cap] w' (BuiltM 60 bs w')) ∧ (∀ w', Nb w w' → Calls Try.prog 15 #[.agg #[.int .i64 x0, .int .i64 x1, .int .i64 x2, .int .i64 x3, .int .i64 x4], .agg #[.int .u64 m0, .int .u64 m1, .int .u64 m2, .int .u64 m3, .int .u64 m4, .int .u64 m5, .int .u64 m6, .int .i64 m7], .slice A N cap] w' (BuiltM 49 bs w'))) ∨
      ((∀ w', Nb w w' → Calls Try.prog 14 #[.agg #[.int .i64 x0, .int .i64 x1, .int .i64 x2, .int .i64 x3, .int .i64 x4], .agg #[.int .u64 m0, .int .u64 m1, .int .u64 m2, .int .u64 m3, .int .u64 m4, .int .u64 m5, .int .u64 m6, .int .i64 m7], .slice A N cap] w' fun e w'' => e = .returned (.tuple #[.pointer none, .int .i64 2]) ∧ Nb w' w'') ∧ (∀ w', Nb w w' → Calls Try.prog 15 #[.agg #[.int .i64 x0, .int .i64 x1, .int .i64 x2, .int .i64 x3, .int .i64 x4], .agg #[.int .u64 m0, .int .u64 m1, .int .u64 m2, .int .u64 m3, .int .u64 m4, .int .u64 m5, .int .u64 m6, .int .i64 m7], .slice A N cap] w' fun e w'' => e = .returned (.tuple #[.pointer none, .int .i64 2]) ∧ Nb w' w'')) at hcase
  replace hB1 := Lib.hid hB1
  replace hR1 := Lib.hid hR1
  replace hlay := Lib.hid hlay
  replace hcase := Lib.hid hcase
  show Calls Try.prog 4 #[.agg #[.int .i64 x0, .int .i64 x1, .int .i64 x2, .int .i64 x3, .int .i64 x4], .slice A N cap, .int .i64 slots, .agg #[.int .u64 o0, .int .u64 o1, .int .u64 o2, .int .u64 o3, .int .u64 o4, .int .u64 o5, .int .u64 o6, .int .i64 o7]] w _
  go_enter Try.func4, Try.ntmps4
  go_upto_region 1 with (fail)
  obtain ⟨W1, hW1⟩ : ∃ W1, (w.alloc (.cells #[.int .i64 x0, .int .i64 x1, .int .i64 x2, .int .i64 x3, .int .i64 x4] 23)).alloc (.cells #[.int .u64 o0, .int .u64 o1, .int .u64 o2, .int .u64 o3, .int .u64 o4, .int .u64 o5, .int .u64 o6, .int .i64 o7] 26) = W1 := ⟨_, rfl⟩
  have n1 : Nb w W1 := by rw [← hW1]; exact (alloc_nb _ _).trans (alloc_nb _ _)
  have b0 : W1.heap[w.heap.size]? = some (.cells #[.int .i64 x0, .int .i64 x1, .int .i64 x2, .int .i64 x3, .int .i64 x4] 23 (0, 0)) := by rw [← hW1]; exact (alloc_nb _ _).block (new_blk _ _ rfl)
  have b1 : W1.heap[w.heap.size + 1]? = some (.cells #[.int .u64 o0, .int .u64 o1, .int .u64 o2, .int .u64 o3, .int .u64 o4, .int .u64 o5, .int .u64 o6, .int .i64 o7] 26 (0, 0)) := by rw [← hW1]; exact new_blk _ _ (size_alloc1 _ _)
  rw [hW1]
  clear hW1
  obtain ⟨H, hH⟩ : ∃ H, w.heap.size = H := ⟨_, rfl⟩
  rw [hH] at b0 b1 ⊢
  clear hH
  obtain ⟨H1, hH1⟩ : ∃ H1, H + 1 = H1 := ⟨_, rfl⟩
  rw [hH1] at b1 ⊢
  clear hH1
  have c0 := cell_of_row _ _ 0 _ _ _ b0
  have c1 := cell_of_row _ _ 1 _ _ _ b0
  have c2 := cell_of_row _ _ 2 _ _ _ b0
  have c3 := cell_of_row _ _ 3 _ _ _ b0
  have c4 := cell_of_row _ _ 4 _ _ _ b0
  have z0 := cell_of_row _ _ 0 _ _ _ b1
  have z1 := cell_of_row _ _ 1 _ _ _ b1
  have z2 := cell_of_row _ _ 2 _ _ _ b1
  have z3 := cell_of_row _ _ 3 _ _ _ b1
  have z4 := cell_of_row _ _ 4 _ _ _ b1
  have z5 := cell_of_row _ _ 5 _ _ _ b1
  have z6 := cell_of_row _ _ 6 _ _ _ b1
  have z7 := cell_of_row _ _ 7 _ _ _ b1
  by_cases a0 : 2000 < (N : Int)
  case pos =>
    have d0 : decide (2000 < (N : Int)) = true := decide_eq_true a0
    clear a0
    go_wp2_with (go_at_call 13; refine (hlives.out _).mono ?_; rintro r w7 ⟨rfl, g7⟩)
    go_ret
    exact ⟨rfl, n1.trans g7⟩
  case neg =>
  have d0 : decide (2000 < (N : Int)) = false := decide_eq_false a0
  clear a0
  by_cases a1 : 300 < x2
  case pos =>
    have d1 : decide (300 < x2) = true := decide_eq_true a1
    clear a1
    go_wp2_with (go_at_call 13; refine (hlives.out _).mono ?_; rintro r w7 ⟨rfl, g7⟩)
    go_ret
    exact ⟨rfl, n1.trans g7⟩
  case neg =>
  have d1 : decide (300 < x2) = false := decide_eq_false a1
  clear a1
  by_cases a2 : 2000 < x3
  case pos =>
    have d2 : decide (2000 < x3) = true := decide_eq_true a2
    clear a2
    go_wp2_with (go_at_call 13; refine (hlives.out _).mono ?_; rintro r w7 ⟨rfl, g7⟩)
    go_ret
    exact ⟨rfl, n1.trans g7⟩
  case neg =>
  have d2 : decide (2000 < x3) = false := decide_eq_false a2
  clear a2
  by_cases a3 : 100 < x1
  case pos =>
    have d3 : decide (100 < x1) = true := decide_eq_true a3
    clear a3
    go_wp2_with (go_at_call 13; refine (hlives.out _).mono ?_; rintro r w7 ⟨rfl, g7⟩)
    go_ret
    exact ⟨rfl, n1.trans g7⟩
  case neg =>
  have d3 : decide (100 < x1) = false := decide_eq_false a3
  clear a3
  go_upto_region 4 with (go_at_call 14; refine (hB1.out _ n1).mono ?_; rintro r w2 ⟨pv1, rfl, g2⟩)
  clear c0 c1 c2 c3 c4 z0 z1 z2 z3 z4 z5 z6 z7
  replace b0 := g2.block b0
  replace b1 := g2.block b1
  replace n1 := n1.trans g2
  clear g2
  have c0 := cell_of_row _ _ 0 _ _ _ b0
  have c1 := cell_of_row _ _ 1 _ _ _ b0
  have c2 := cell_of_row _ _ 2 _ _ _ b0
  have c3 := cell_of_row _ _ 3 _ _ _ b0
  have c4 := cell_of_row _ _ 4 _ _ _ b0
  have z0 := cell_of_row _ _ 0 _ _ _ b1
  have z1 := cell_of_row _ _ 1 _ _ _ b1
  have z2 := cell_of_row _ _ 2 _ _ _ b1
  have z3 := cell_of_row _ _ 3 _ _ _ b1
  have z4 := cell_of_row _ _ 4 _ _ _ b1
  have z5 := cell_of_row _ _ 5 _ _ _ b1
  have z6 := cell_of_row _ _ 6 _ _ _ b1
  have z7 := cell_of_row _ _ 7 _ _ _ b1
  go_upto_region 5 with (go_at_call 15; refine (hR1.out _ n1).mono ?_; rintro r w3 ⟨pv2, rfl, g3⟩)
  clear c0 c1 c2 c3 c4 z0 z1 z2 z3 z4 z5 z6 z7 b1
  replace b0 := g3.block b0
  replace n1 := n1.trans g3
  clear g3
  have c0 := cell_of_row _ _ 0 _ _ _ b0
  have c1 := cell_of_row _ _ 1 _ _ _ b0
  have c2 := cell_of_row _ _ 2 _ _ _ b0
  have c3 := cell_of_row _ _ 3 _ _ _ b0
  have c4 := cell_of_row _ _ 4 _ _ _ b0
  go_upto_region 8 with (go_at_call 8; refine (hlay.out _).mono ?_; rintro r w4 ⟨rfl, g4⟩)
  obtain ⟨W5, hW5⟩ : ∃ W5, w4.alloc (.cells #[.int .u64 m0, .int .u64 m1, .int .u64 m2, .int .u64 m3, .int .u64 m4, .int .u64 m5, .int .u64 m6, .int .i64 m7] 26) = W5 := ⟨_, rfl⟩
  have n5 : Nb w3 W5 := by rw [← hW5]; exact g4.trans (alloc_nb _ _)
  have b2 : W5.heap[w4.heap.size]? = some (.cells #[.int .u64 m0, .int .u64 m1, .int .u64 m2, .int .u64 m3, .int .u64 m4, .int .u64 m5, .int .u64 m6, .int .i64 m7] 26 (0, 0)) := by rw [← hW5]; exact new_blk _ _ rfl
  rw [hW5]
  clear hW5
  obtain ⟨H2, hH2⟩ : ∃ H, w4.heap.size = H := ⟨_, rfl⟩
  rw [hH2] at b2 ⊢
  clear hH2 c0 c1 c2 c3 c4
  replace b0 := n5.block b0
  replace n1 := n1.trans n5
  clear n5 g4
  have c0 := cell_of_row _ _ 0 _ _ _ b0
  have c1 := cell_of_row _ _ 1 _ _ _ b0
  have c2 := cell_of_row _ _ 2 _ _ _ b0
  have c3 := cell_of_row _ _ 3 _ _ _ b0
  have c4 := cell_of_row _ _ 4 _ _ _ b0
  have z0 := cell_of_row _ _ 0 _ _ _ b2
  have z1 := cell_of_row _ _ 1 _ _ _ b2
  have z2 := cell_of_row _ _ 2 _ _ _ b2
  have z3 := cell_of_row _ _ 3 _ _ _ b2
  have z4 := cell_of_row _ _ 4 _ _ _ b2
  have z5 := cell_of_row _ _ 5 _ _ _ b2
  have z6 := cell_of_row _ _ 6 _ _ _ b2
  have z7 := cell_of_row _ _ 7 _ _ _ b2
  rcases hcase.out with ⟨bs, hbs, hB2, hR2⟩ | ⟨hB2, hR2⟩
  · replace hB2 := Lib.hid hB2
    replace hR2 := Lib.hid hR2
    go_upto_region 9 with (go_at_call 14; refine (hB2.out _ n1).mono ?_; rintro r w6 ⟨p1, q1, rfl, hM1, g6⟩)
    clear c0 c1 c2 c3 c4 z0 z1 z2 z3 z4 z5 z6 z7
    replace b0 := g6.block b0
    replace b2 := g6.block b2
    replace n1 := n1.trans g6
    clear g6
    have c0 := cell_of_row _ _ 0 _ _ _ b0
    have c1 := cell_of_row _ _ 1 _ _ _ b0
    have c2 := cell_of_row _ _ 2 _ _ _ b0
    have c3 := cell_of_row _ _ 3 _ _ _ b0
    have c4 := cell_of_row _ _ 4 _ _ _ b0
    have z0 := cell_of_row _ _ 0 _ _ _ b2
    have z1 := cell_of_row _ _ 1 _ _ _ b2
    have z2 := cell_of_row _ _ 2 _ _ _ b2
    have z3 := cell_of_row _ _ 3 _ _ _ b2
    have z4 := cell_of_row _ _ 4 _ _ _ b2
    have z5 := cell_of_row _ _ 5 _ _ _ b2
    have z6 := cell_of_row _ _ 6 _ _ _ b2
    have z7 := cell_of_row _ _ 7 _ _ _ b2
    go_upto_region 10 with (go_at_call 15; refine (hR2.out _ n1).mono ?_; rintro r w8 ⟨p2, q2, rfl, hM2, g8⟩)
    clear c0 c1 c2 c3 c4 z0 z1 z2 z3 z4 z5 z6 z7
    replace hM1 := hM1.nb g8
    replace n1 := n1.trans g8
    clear g8 b0 b2
    have hlen := Lib.hid (len_any p1 q1 bs w8 hM1)
    have hM1h := Lib.hid hM1
    have hM2h := Lib.hid hM2
    clear hM1 hM2
    go_upto_region 14 with (fail)
    have hbyt := bytes_ok p1 q1 bs 0 bs.length (by omega) hbs w8 hM1h.out
    unfold BytesOk at hbyt
    rw [List.drop_zero, List.take_length] at hbyt
    change Calls Try.prog 16 #[.pointer (some ⟨p1, 0, none⟩), .int .u64 0, .int .i64 (bs.length : Int)] w8 _ at hbyt
    obtain ⟨M, hMl⟩ : ∃ M, bs.length = M := ⟨_, rfl⟩
    rw [hMl] at hlen hbyt
    replace hbyt := Lib.hid hbyt
    replace hMl := Lib.hid hMl
    go_upto_region 15 with (first
      | (go_at_call 17; refine hlen.out.mono ?_; rintro r w9 ⟨rfl, e9⟩; subst e9)
      | (go_at_call 16; refine hbyt.out.mono ?_; rintro r w10 ⟨rfl, k10, g10⟩))
    have hM2 := hM2h.out.nb g10
    have m0 := hM2.head
    have m1 := hM2.2
    rw [hMl.out] at m0
    obtain ⟨B8, hB8⟩ : ∃ B8, w8.heap.size = B8 := ⟨_, rfl⟩
    rw [hB8] at k10 ⊢
    replace n1 := n1.trans (show Nb w8 w10 from g10)
    clear hB8
    have hG : Nb w10 w10.drew := drew1R (Nb.refl w10)
    refine wp_region_late [] (fun _ => True) (fun w' => Nb w10 w') (by kernel_rfl) ⟨fun _ => trivial, hG⟩ (fun _ => ?_)
    change wpAnyL _ _ _ _ _ _ _ 12 (List.toArray [false, false, false, false, false, false, false, false, false, false, false, false]) _ _
    refine takeG_l (i := 0) (v := .slice (some ⟨B8, 0, none⟩) M M) rfl (by kernel_rfl) (by kernel_rfl) (by kernel_rfl) (by rfl) (fun _ _ _ h => h) (.inl ⟨by rfl, by intro w' hw; go_simp⟩) ⟨fun _ => trivial, hG⟩ ?_
    simp only [Act.put, List.setIfInBounds_toArray, List.set_cons_zero, List.set_cons_succ]
    refine takeG_l (i := 2) (v := .pointer (some ⟨p2, 0, none⟩)) rfl (by kernel_rfl) (by kernel_rfl) (by kernel_rfl) (by rfl) (fun _ _ _ h => h) (.inl ⟨by rfl, by intro w' hw; go_simp⟩) ⟨fun _ => trivial, hG⟩ ?_
    simp only [Act.put, List.setIfInBounds_toArray, List.set_cons_zero, List.set_cons_succ]
    refine takeG_l (i := 1) (v := .string ⟨bs.toArray⟩) rfl (by kernel_rfl) (by kernel_rfl) (by kernel_rfl) (by rfl) (fun _ _ _ h => h) (.inl ⟨by rfl, by intro w' hw; have s1 := str_own (cap := M) (hw.block k10) hMl.out; go_simp⟩) ⟨fun _ => trivial, hG⟩ ?_
    simp only [Act.put, List.setIfInBounds_toArray, List.set_cons_zero, List.set_cons_succ]
    refine takeG_l (i := 3) (v := .pointer (some ⟨p2, 0, none⟩)) rfl (by kernel_rfl) (by kernel_rfl) (by kernel_rfl) (by rfl) (fun _ _ _ h => h) (.inl ⟨by rfl, by intro w' hw; go_simp⟩) ⟨fun _ => trivial, hG⟩ ?_
    simp only [Act.put, List.setIfInBounds_toArray, List.set_cons_zero, List.set_cons_succ]
    refine takeG_l (i := 4) (v := .pointer (some ⟨p2, 0, none⟩)) rfl (by kernel_rfl) (by kernel_rfl) (by kernel_rfl) (by rfl) (fun _ _ _ h => h) (.inl ⟨by rfl, by intro w' hw; go_simp⟩) ⟨fun _ => trivial, hG⟩ ?_
    simp only [Act.put, List.setIfInBounds_toArray, List.set_cons_zero, List.set_cons_succ]
    refine takeG_l (i := 5) (v := .slice (some ⟨q2, 0, none⟩) M M) rfl (by kernel_rfl) (by kernel_rfl) (by kernel_rfl) (by rfl) (fun _ _ _ h => h) (.inl ⟨by rfl, by intro w' hw; have c0 := hw.cell m0; go_simp⟩) ⟨fun _ => trivial, hG⟩ ?_
    simp only [Act.put, List.setIfInBounds_toArray, List.set_cons_zero, List.set_cons_succ]
    refine takeG_l (i := 6) (v := .string ⟨bs.toArray⟩) rfl (by kernel_rfl) (by kernel_rfl) (by kernel_rfl) (by rfl) (fun _ _ _ h => h) (.inl ⟨by rfl, by intro w' hw; have s2 := str_own (cap := M) (hw.block m1) hMl.out; go_simp⟩) ⟨fun _ => trivial, hG⟩ ?_
    simp only [Act.put, List.setIfInBounds_toArray, List.set_cons_zero, List.set_cons_succ]
    refine takeG_l (i := 7) (v := .bool true) rfl (by kernel_rfl) (by kernel_rfl) (by kernel_rfl) (by rfl) (fun _ _ _ h => h) (.inl ⟨by rfl, by intro w' hw; go_simp⟩) ⟨fun _ => trivial, hG⟩ ?_
    simp only [Act.put, List.setIfInBounds_toArray, List.set_cons_zero, List.set_cons_succ]
    refine takeG_l (i := 8) (v := .bool true) rfl (by kernel_rfl) (by kernel_rfl) (by kernel_rfl) (by rfl) (fun _ _ _ h => h) (.inl ⟨by rfl, by intro w' hw; go_simp⟩) ⟨fun _ => trivial, hG⟩ ?_
    simp only [Act.put, List.setIfInBounds_toArray, List.set_cons_zero, List.set_cons_succ]
    generalize w10.drew = Wd at hG ⊢
    refine onlyL_l (i := 9) (by kernel_rfl) rfl (by rfl) (fun K hK => ?_)
    go_simp
    refine (hlives.out _).mono ?_
    rintro r w5 ⟨rfl, nc⟩
    replace hG := hG.trans nc
    refine hK.out _ _ ⟨fun _ => trivial, hG⟩ (fun _ => ?_)
    clear hK K nc
    simp only [Act.put, List.setIfInBounds_toArray, List.set_cons_zero, List.set_cons_succ]
    refine takeG_l (i := 10) (v := .bool true) rfl (by kernel_rfl) (by kernel_rfl) (by kernel_rfl) (by rfl) (fun _ _ _ h => h) (.inl ⟨by rfl, by intro w' hw; go_simp⟩) ⟨fun _ => trivial, hG⟩ ?_
    simp only [Act.put, List.setIfInBounds_toArray, List.set_cons_zero, List.set_cons_succ]
    refine takeG_l (i := 11) (v := .bool true) rfl (by kernel_rfl) (by kernel_rfl) (by kernel_rfl) (by rfl) (fun _ _ _ h => h) (.inl ⟨by rfl, by intro w' hw; go_simp⟩) ⟨fun _ => trivial, hG⟩ ?_
    simp only [Act.put, List.setIfInBounds_toArray, List.set_cons_zero, List.set_cons_succ]
    refine doneL (by kernel_rfl) ?_ _
    go_wp2_with fail
    go_ret
    exact ⟨rfl, n1.trans hG⟩
  · replace hB2 := Lib.hid hB2
    replace hR2 := Lib.hid hR2
    go_upto_region 9 with (go_at_call 14; refine (hB2.out _ n1).mono ?_; rintro r w6 ⟨rfl, g6⟩)
    clear c0 c1 c2 c3 c4 z0 z1 z2 z3 z4 z5 z6 z7
    replace b0 := g6.block b0
    replace b2 := g6.block b2
    replace n1 := n1.trans g6
    clear g6
    have c0 := cell_of_row _ _ 0 _ _ _ b0
    have c1 := cell_of_row _ _ 1 _ _ _ b0
    have c2 := cell_of_row _ _ 2 _ _ _ b0
    have c3 := cell_of_row _ _ 3 _ _ _ b0
    have c4 := cell_of_row _ _ 4 _ _ _ b0
    have z0 := cell_of_row _ _ 0 _ _ _ b2
    have z1 := cell_of_row _ _ 1 _ _ _ b2
    have z2 := cell_of_row _ _ 2 _ _ _ b2
    have z3 := cell_of_row _ _ 3 _ _ _ b2
    have z4 := cell_of_row _ _ 4 _ _ _ b2
    have z5 := cell_of_row _ _ 5 _ _ _ b2
    have z6 := cell_of_row _ _ 6 _ _ _ b2
    have z7 := cell_of_row _ _ 7 _ _ _ b2
    go_wp2_with (first
      | (go_at_call 15; refine (hR2.out _ n1).mono ?_; rintro r w8 ⟨rfl, g8⟩)
      | (go_at_call 13; refine (hlives.out _).mono ?_; rintro r w7 ⟨rfl, g7⟩))
    go_ret
    exact ⟨rfl, (n1.trans g8).trans g7⟩
/-! The row's step. -/
set_option maxRecDepth 100000 in
set_option maxHeartbeats 1000000 in
theorem lifted (os : Os) (started : os.Started) (H : Type) (enc : TypeId × Value → H) :
    ReturnsInHanded {} Try.checked os 4 .any (Rows.imageBuildsSpec.pre6 enc Try.prog Try.f4 Rows.imageBuildsRow.domain false)
      (Rows.imageBuildsSpec.post enc Try.prog Try.f4 false true false false) := by
  refine returnsInHanded_of_change (C := Try.checked) own started (by kernel_rfl) Try.func4
    (ChangeSpec.witness6 (enc := enc) (C := Try.checked) false ⟨#[], #[.agg #[.int .i64 0, .int .i64 0, .int .i64 0, .int .i64 0, .int .i64 0], .slice none 0 0, .int .i64 0, .agg #[.int .u64 0, .int .u64 0, .int .u64 0, .int .u64 0, .int .u64 0, .int .u64 0, .int .u64 0, .int .i64 0]], []⟩ 8 (by kernel_rfl) (by kernel_rfl) (by kernel_rfl) (by kernel_rfl)) ?_
  intro W base args ds gs before hval0 hW _ _
  have hval : ∀ (j : Nat) t v, Try.f4.params[j]? = some t → args[j]? = some v → Value.okWide Try.prog W .any base t v := hval0
  have hW' := hW
  obtain ⟨p, q, hA0, hV, rfl, hfz, hnd⟩ := hW
  have hA1 : DataW.TrodAll enc Try.prog W 0 (fun _ => true) true Try.f4.params.toList args.toList ds p := hA0
  have hA := hA1
  rw [Try.params4] at hA hval
  obtain ⟨v0, vs0, d0, ds0, p0, q0, hargs0, rfl, -, h0, r0⟩ := trodAll_cons hA
  obtain ⟨v1, vs1, d1, ds1, p1, q1, hargs1, rfl, -, h1, r1⟩ := trodAll_cons r0
  obtain ⟨v2, vs2, d2, ds2, p2, q2, hargs2, rfl, -, h2, r2⟩ := trodAll_cons r1
  obtain ⟨v3, vs3, d3, ds3, p3, q3, hargs3, rfl, -, h3, r3⟩ := trodAll_cons r2
  obtain ⟨rfl, rfl, -⟩ := trodAll_nil r3
  obtain rfl : args = #[v0, v1, v2, v3] := by cases args; simp_all
  obtain ⟨rfl, rfl⟩ := trodVars_none hV
  obtain ⟨q0, rfl, w0⟩ := open_conf (hval 0 23 v0 rfl rfl) h0
  obtain ⟨q1, hq1, hx1⟩ := open_u32s (hval 1 37 v1 rfl rfl) h1
  obtain ⟨n2, rfl, -, -, w2⟩ := open_int Try.underlying3 (hval 2 3 v2 rfl rfl) h2
  obtain ⟨q3, rfl, w3⟩ := open_layout (hval 3 26 v3 rfl rfl) h3
  clear hval0
  simp only [List.append_nil] at hW'
  refine (walk q0 v1 q1 n2 q3 w0 hx1 (i64_of w2) w3 W hq1).mono fun e W' ⟨he, hg⟩ => ?_
  subst he
  exact ⟨_, rfl, post_of_nb (pa := p) (pv := []) hW' (fun _ _ _ => (trodAll_cons_mk (shut_bool Try.underlying4 _) trodAll_mk0))
    (fun sp hsp => args_stay (by kernel_rfl) hg hA1 (fun t ht => by
      have h0 : (Try.f4.params.toList.all fun t => Try.prog.readableRec t && decide (t < Try.prog.types.size)) = true := by kernel_rfl
      have h1 := List.all_eq_true.1 h0 t ht
      rw [Bool.and_eq_true, decide_eq_true_eq] at h1
      exact h1) (fun x hx => hW'.lt x hx) hsp)
    (fun _ _ => rfl) (by simp) hg (ok_one (by kernel_rfl) rfl (okWide_bool_mk Try.underlying4 _))⟩
theorem over : Rows.imageBuildsRow.holds Try.pinned (OpenSpec.ofChange Rows.imageBuildsSpec) :=
  OpenClaim.holds_of_wide 4 Try.f4 rfl rfl rfl rfl rfl rfl rfl ⟨rfl, rfl, rfl, rfl, rfl⟩ rfl rfl rfl rfl rfl (by kernel_rfl) Try.func4 (by kernel_rfl)
    (of_decide_eq_true (by kernel_rfl)) (by unfold Func.isWrapper; first | (rw [if_pos (by decide +kernel)]; kernel_rfl) | (rw [if_neg (by decide +kernel)]; exact ⟨rfl, rfl⟩))
    (fun os started H enc _ => lifted os started H enc)
/-- The statement. -/
theorem proved : Rows.ImageBuildsSaid := over
#print axioms proved
end Go.Proofs.Ytojogolmcclpoaa.imageBuilds

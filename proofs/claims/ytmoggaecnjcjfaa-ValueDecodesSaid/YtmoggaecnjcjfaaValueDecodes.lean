/-
  Proved here: the statement ValueDecodes: which value a word is, over any words at any base, is as the document says, and what is decoded may be. Conditions: none.
-/
import Derived.Test.YtmoggaecnjcjfaaXi
import Derived.Test.YtmoggaecnjcjfaaXj
import Derived.Test.YtmoggaecnjcjfaaVf
import Derived.Test.YtmoggaecnjcjfaaVo
namespace Go.Proofs.Ytmoggaecnjcjfaa.valueDecodes
open Go.Sort Go.RowKit Go.ChangeMaps Go.ChangeShapes Go.WideShapes Go.ChangeAt Go.Joins
set_option linter.unusedVariables false
set_option linter.unusedSimpArgs false
set_option maxRecDepth 100000
set_option maxHeartbeats 4000000
theorem in_of {x : Int} (h : (Lit.int .u64 x).wf = true) : 0 ≤ x ∧ x < 18446744073709551616 := by
  simp [Lit.wf, IntKind.min, IntKind.max, IntKind.signed, IntKind.bits] at h
  omega
theorem cells_u64 : Try.prog.cellsOf 32 = 1 := by kernel_rfl
section
variable {H : Type} {enc : TypeId × Value → H} {w : World} {base : Nat} {spare : Nat → Bool} {held : Bool}
/-- Words that came in. -/
theorem open_words {r : Reach} {b0 : Nat} {v : Value} {d : DataW H} {p : List MemPlace} (hv : Value.okWide Try.prog w r b0 31 v) (h : DataW.Trod enc Try.prog w base spare held 31 v d p) :
    ∃ l : List Int, WdsR w v l ∧ ∀ x ∈ l, 0 ≤ x ∧ x < 18446744073709551616 := by
  obtain ⟨a1, len1, cap1, rfl⟩ := okWide_slice Try.underlying31 hv
  obtain ⟨fuel, hf⟩ := h
  obtain ⟨v, l, e, hrow, hk⟩ := open_list (fun x : Int => [Value.int .u64 x]) (fun x => 0 ≤ x ∧ x < 18446744073709551616) (by decide : 0 < 1) Try.underlying31 cells_u64 hf (fun n' cs y _ h => by
    obtain ⟨x, rfl, -, wx⟩ := DataW.trod_int Try.underlying32 h
    exact ⟨x, rfl, in_of wx⟩) (fun _ => rfl)
  simp [Value.cells] at e
  subst e
  exact ⟨l, hrow, hk⟩
end
theorem VAns.open {pq : Pv} {w : World} {r : Ending} {w' : World} (h : VAns (.good pq) w r w') : ∃ (kd nn : Int) (A' : Option Addr) (L' c' : Nat) (l : List Vl), r = .returned (.tuple #[.agg #[.int .i64 kd, .int .i64 nn, .slice A' L' c'], .int .i64 0]) ∧ Nb w w' ∧ Hid ((Vl.mk kd nn (.slice A' L' c') l).sh = pq ∧ (Vl.mk kd nn (.slice A' L' c') l).Has w' ∧ (Vl.mk kd nn (.slice A' L' c') l).Frv w.heap.size w' ∧ (Vl.mk kd nn (.slice A' L' c') l).good = true) := by
  obtain ⟨ha, v, hc, hd, he, hf, hg, hh⟩ := h
  obtain ⟨A', c', hav, -, -, -⟩ := he.vls.head
  cases v with
  | mk kd nn av l =>
    simp only [Vl.av, Vl.args] at hav
    subst hav
    exact ⟨kd, nn, A', _, c', l, hc, ha, Lib.hid ⟨hd, he, hf, by unfold Vl.good; rw [hg, decide_eq_true hh]; rfl⟩⟩
theorem VRef.open {pq : Pv} {w : World} {r : Ending} {w' : World} (h : VRef (.good pq) w r w') : ∃ (kd nn : Int) (A' : Option Addr) (L' c' : Nat) (l : List Vl), r = .returned (.tuple #[.agg #[.int .i64 kd, .int .i64 nn, .slice A' L' c'], .int .i64 0]) ∧ Nb w w' ∧ Hid ((Vl.mk kd nn (.slice A' L' c') l).sh = pq ∧ (Vl.mk kd nn (.slice A' L' c') l).Has w') := by
  obtain ⟨ha, v, hc, hd, he⟩ := h
  obtain ⟨A', c', hav, -, -, -⟩ := he.vls.head
  cases v with
  | mk kd nn av l =>
    simp only [Vl.av, Vl.args] at hav
    subst hav
    exact ⟨kd, nn, A', _, c', l, hc, ha, Lib.hid ⟨hd, he⟩⟩
theorem walk (wd : Int) (sv : Value) (xs : List Int) (bs : Int) (h0 : 0 ≤ wd ∧ wd < 18446744073709551616) (hx : ∀ x ∈ xs, 0 ≤ x ∧ x < 18446744073709551616) (h2 : 0 ≤ bs ∧ bs < 18446744073709551616) (w : World) (hv : WdsR w sv xs) :
    Calls Try.prog 5 #[.int .u64 wd, sv, .int .u64 bs] w fun r w' => r = .returned (.bool true) ∧ Nb w w' := by
  obtain ⟨A, c, rfl, hcp, hl6, -⟩ := hv.head
  rw [List.length_map] at hcp hl6 hv ⊢
  obtain ⟨n, hn⟩ : ∃ n, xs.length = n := ⟨_, rfl⟩
  have hnh := Lib.hid hn
  rw [hn] at hcp hl6 hv ⊢
  clear hn
  by_cases hbig : 500 < n
  · have hb2 : (500 : Int) < (n : Int) := by omega
    clear hv
    go_enter Try.func5, Try.ntmps5
    go_wp2_with (go_at_call 9; refine (lives_any _).mono ?_; rintro r w3 ⟨rfl, n3⟩)
    go_ret
    exact ⟨rfl, n3⟩
  · have hb2 : ¬ (500 : Int) < (n : Int) := by omega
    obtain ⟨R, hR⟩ : ∃ R, (decV xs bs 64 wd 0).2 = R := ⟨_, rfl⟩
    have d1 := Lib.hid (dec_any w xs bs A n c hv hx (by rw [hnh.out]; omega) h2.1 h2.2 wd h0.1 h0.2)
    have d2 := Lib.hid (fun W (k : Nb w W) => rdec_any W xs bs A n c (hv.nb k) hx (by rw [hnh.out]; omega) h2.1 h2.2 wd h0.1 h0.2)
    rw [hR] at d1 d2
    clear hR hv hx
    cases R with
    | bad e =>
      replace d1 : Hid (Calls Try.prog 20 #[.int .u64 wd, .slice A n c, .int .u64 bs] w (fun r w' => r = .returned (.tuple #[.agg #[.int .i64 0, .int .i64 0, .slice none 0 0], .int .i64 e]) ∧ Nb w w' ∧ e ≠ 0)) := Lib.hid (d1.out.mono fun r w' h => ⟨h.2.2, h.1, h.2.1⟩)
      replace d2 : Hid (∀ W, Nb w W → Calls Try.prog 21 #[.int .u64 wd, .slice A n c, .int .u64 bs] W (fun r w' => r = .returned (.tuple #[.agg #[.int .i64 0, .int .i64 0, .slice none 0 0], .int .i64 e]) ∧ Nb W w')) := Lib.hid (fun W k => (d2.out W k).mono fun r w' h => ⟨h.2.2, h.1⟩)
      have hs : Hid (∀ W, Calls Try.prog 10 #[.agg #[.int .i64 0, .int .i64 0, .slice none 0 0], .agg #[.int .i64 0, .int .i64 0, .slice none 0 0]] W fun r w' => r = .returned (.bool true) ∧ Nb W w') := Lib.hid (fun W => by simpa using rsame_int 0 0 0 0 W)
      go_enter Try.func5, Try.ntmps5
      go_upto_region 4 with (go_at_call 20; refine (d1.out).mono ?_; rintro r w3 ⟨rfl, n3, he⟩)
      have he2 : (e == 0) = false := by simpa using he
      have he3 : (e != 0) = true := by simpa using he
      obtain ⟨W4, hW4⟩ : ∃ W, w3.alloc (Obj.cells #[.int .i64 0, .int .i64 0, .slice none 0 0] 24) = W := ⟨_, rfl⟩
      have n4 : Nb w3 W4 := by rw [← hW4]; exact (Nb.refl w3).alloc _
      have b7 : W4.heap[w3.heap.size]? = some (.cells #[.int .i64 0, .int .i64 0, .slice none 0 0] 24 (0, 0)) := by rw [← hW4]; exact new_blk _ _ rfl
      rw [hW4]
      clear hW4
      obtain ⟨V, hV⟩ : ∃ V, w3.heap.size = V := ⟨_, rfl⟩
      rw [hV] at b7 ⊢
      clear hV
      have n04 := n3.trans n4
      go_upto_region 5 with (go_at_call 21; refine (d2.out _ n04).mono ?_; rintro r w5 ⟨rfl, n5⟩)
      obtain ⟨W6, hW6⟩ : ∃ W, w5.alloc (Obj.cells #[.int .i64 0, .int .i64 0, .slice none 0 0] 24) = W := ⟨_, rfl⟩
      have n6 : Nb w5 W6 := by rw [← hW6]; exact (Nb.refl w5).alloc _
      have b9 : W6.heap[w5.heap.size]? = some (.cells #[.int .i64 0, .int .i64 0, .slice none 0 0] 24 (0, 0)) := by rw [← hW6]; exact new_blk _ _ rfl
      rw [hW6]
      clear hW6
      obtain ⟨X, hX⟩ : ∃ V, w5.heap.size = V := ⟨_, rfl⟩
      rw [hX] at b9 ⊢
      clear hX
      replace b7 := (n5.trans n6).block b7
      have n06 := n04.trans (n5.trans n6)
      have p0 := cell_of_row _ _ 0 _ _ _ b7
      have p1 := cell_of_row _ _ 1 _ _ _ b7
      have p2 := cell_of_row _ _ 2 _ _ _ b7
      have q0 := cell_of_row _ _ 0 _ _ _ b9
      have q1 := cell_of_row _ _ 1 _ _ _ b9
      have q2 := cell_of_row _ _ 2 _ _ _ b9
      clear n3 n4 n5 n6 n04 b7 b9
      go_wp2_with (first
        | (go_at_call 10; refine (hs.out _).mono ?_; rintro r w7 ⟨rfl, n7⟩)
        | (go_at_call 9; refine (lives_any _).mono ?_; rintro r w8 ⟨rfl, n8⟩))
      go_ret
      exact ⟨rfl, n06.trans (n7.trans n8)⟩
    | good pq =>
      replace d1 := Lib.hid (d1.out.mono fun r w' h => VAns.open h)
      replace d2 := Lib.hid (fun W (k : Nb w W) => (d2.out W k).mono fun r w' h => VRef.open h)
      go_enter Try.func5, Try.ntmps5
      go_upto_region 4 with (go_at_call 20; refine (d1.out).mono ?_; rintro r w3 ⟨kd, nn, A', L', c', l, rfl, n3, hv3⟩)
      obtain ⟨W4, hW4⟩ : ∃ W, w3.alloc (Obj.cells #[.int .i64 kd, .int .i64 nn, .slice A' L' c'] 24) = W := ⟨_, rfl⟩
      have n4 : Nb w3 W4 := by rw [← hW4]; exact (Nb.refl w3).alloc _
      have b7 : W4.heap[w3.heap.size]? = some (.cells #[.int .i64 kd, .int .i64 nn, .slice A' L' c'] 24 (0, 0)) := by rw [← hW4]; exact new_blk _ _ rfl
      rw [hW4]
      clear hW4
      obtain ⟨V, hV⟩ : ∃ V, w3.heap.size = V := ⟨_, rfl⟩
      rw [hV] at b7 ⊢
      clear hV
      have n04 := n3.trans n4
      go_upto_region 5 with (go_at_call 21; refine (d2.out _ n04).mono ?_; rintro r w5 ⟨k2, m2, A2, L2, c2, l2, rfl, n5, hv5⟩)
      obtain ⟨W6, hW6⟩ : ∃ W, w5.alloc (Obj.cells #[.int .i64 k2, .int .i64 m2, .slice A2 L2 c2] 24) = W := ⟨_, rfl⟩
      have n6 : Nb w5 W6 := by rw [← hW6]; exact (Nb.refl w5).alloc _
      have b9 : W6.heap[w5.heap.size]? = some (.cells #[.int .i64 k2, .int .i64 m2, .slice A2 L2 c2] 24 (0, 0)) := by rw [← hW6]; exact new_blk _ _ rfl
      rw [hW6]
      clear hW6
      obtain ⟨X, hX⟩ : ∃ V, w5.heap.size = V := ⟨_, rfl⟩
      rw [hX] at b9 ⊢
      clear hX
      replace b7 := (n5.trans n6).block b7
      have n06 := n04.trans (n5.trans n6)
      have n36 := n4.trans (n5.trans n6)
      obtain ⟨hvh, hvf⟩ := keeps_nb n36 hv3.out.2.1 hv3.out.2.2.1
      have hxh := hv5.out.2.nb n6
      have hs : Hid (∀ W, Nb W6 W → Calls Try.prog 10 #[.agg #[.int .i64 kd, .int .i64 nn, .slice A' L' c'], .agg #[.int .i64 k2, .int .i64 m2, .slice A2 L2 c2]] W fun r w' => r = .returned (.bool true) ∧ Nb W w') := Lib.hid (fun W k => rsame_sh W6 _ hvh _ hxh (by rw [hv3.out.1, hv5.out.1]) W k)
      have hgd : Hid (∀ W, Nb W6 W → Calls Try.prog 22 #[.agg #[.int .i64 kd, .int .i64 nn, .slice A' L' c']] W fun r w' => r = .returned (.bool true) ∧ Nb W w') := Lib.hid (fun W k => by
        have := good_any W6 _ hvh hvf.fre W k
        rw [hv3.out.2.2.2] at this
        exact this)
      have p0 := cell_of_row _ _ 0 _ _ _ b7
      have p1 := cell_of_row _ _ 1 _ _ _ b7
      have p2 := cell_of_row _ _ 2 _ _ _ b7
      have q0 := cell_of_row _ _ 0 _ _ _ b9
      have q1 := cell_of_row _ _ 1 _ _ _ b9
      have q2 := cell_of_row _ _ 2 _ _ _ b9
      clear n3 n4 n5 n6 n04 n36 b9 hv3 hv5 hvh hvf hxh
      go_wp2_with (first
        | (go_at_call 10; refine (hs.out _ (Nb.refl _)).mono ?_; rintro r w7 ⟨rfl, n7⟩; have b77 := n7.block b7; have p0 := cell_of_row _ _ 0 _ _ _ b77; have p1 := cell_of_row _ _ 1 _ _ _ b77; have p2 := cell_of_row _ _ 2 _ _ _ b77)
        | (go_at_call 22; refine (hgd.out _ n7).mono ?_; rintro r w9 ⟨rfl, n9⟩)
        | (go_at_call 9; refine (lives_any _).mono ?_; rintro r w8 ⟨rfl, n8⟩))
      go_ret
      exact ⟨rfl, n06.trans (n7.trans (n9.trans n8))⟩
/-! The row's step. -/
set_option maxRecDepth 100000 in
set_option maxHeartbeats 1000000 in
theorem lifted (os : Os) (started : os.Started) (H : Type) (enc : TypeId × Value → H) :
    ReturnsInHanded {} Try.checked os 5 .any (Rows.valueDecodesSpec.pre6 enc Try.prog Try.f5 Rows.valueDecodesRow.domain false)
      (Rows.valueDecodesSpec.post enc Try.prog Try.f5 false true false false) := by
  refine returnsInHanded_of_change (C := Try.checked) own started (by kernel_rfl) Try.func5
    (ChangeSpec.witness6 (enc := enc) (C := Try.checked) false ⟨#[], #[.int .u64 0, .slice none 0 0, .int .u64 0], []⟩ 8 (by kernel_rfl) (by kernel_rfl) (by kernel_rfl) (by kernel_rfl)) ?_
  intro W base args ds gs before hval0 hW _ _
  have hval : ∀ (j : Nat) t v, Try.f5.params[j]? = some t → args[j]? = some v → Value.okWide Try.prog W .any base t v := hval0
  have hW' := hW
  obtain ⟨p, q, hA0, hV, rfl, hfz, hnd⟩ := hW
  have hA1 : DataW.TrodAll enc Try.prog W 0 (fun _ => true) true Try.f5.params.toList args.toList ds p := hA0
  have hA := hA1
  rw [Try.params5] at hA hval
  obtain ⟨v0, vs0, d0, ds0, p0, q0, hargs0, rfl, -, h0, r0⟩ := trodAll_cons hA
  obtain ⟨v1, vs1, d1, ds1, p1, q1, hargs1, rfl, -, h1, r1⟩ := trodAll_cons r0
  obtain ⟨v2, vs2, d2, ds2, p2, q2, hargs2, rfl, -, h2, r2⟩ := trodAll_cons r1
  obtain ⟨rfl, rfl, -⟩ := trodAll_nil r2
  obtain rfl : args = #[v0, v1, v2] := by cases args; simp_all
  obtain ⟨rfl, rfl⟩ := trodVars_none hV
  obtain ⟨n0, rfl, -, -, w0⟩ := open_int Try.underlying32 (hval 0 32 v0 rfl rfl) h0
  obtain ⟨q1, hq1, hx1⟩ := open_words (hval 1 31 v1 rfl rfl) h1
  obtain ⟨n2, rfl, -, -, w2⟩ := open_int Try.underlying32 (hval 2 32 v2 rfl rfl) h2
  clear hval0
  simp only [List.append_nil] at hW'
  refine (walk n0 v1 q1 n2 (in_of w0) hx1 (in_of w2) W hq1).mono fun e W' ⟨he, hg⟩ => ?_
  subst he
  exact ⟨_, rfl, post_of_nb (pa := p) (pv := []) hW' (fun _ _ _ => (trodAll_cons_mk (shut_bool Try.underlying4 _) trodAll_mk0))
    (fun sp hsp => args_stay (by kernel_rfl) hg hA1 (fun t ht => by
      have h0 : (Try.f5.params.toList.all fun t => Try.prog.readableRec t && decide (t < Try.prog.types.size)) = true := by kernel_rfl
      have h1 := List.all_eq_true.1 h0 t ht
      rw [Bool.and_eq_true, decide_eq_true_eq] at h1
      exact h1) (fun x hx => hW'.lt x hx) hsp)
    (fun _ _ => rfl) (by simp) hg (ok_one (by kernel_rfl) rfl (okWide_bool_mk Try.underlying4 _))⟩
theorem over : Rows.valueDecodesRow.holds Try.pinned (OpenSpec.ofChange Rows.valueDecodesSpec) :=
  OpenClaim.holds_of_wide 5 Try.f5 rfl rfl rfl rfl rfl rfl rfl ⟨rfl, rfl, rfl, rfl, rfl⟩ rfl rfl rfl rfl rfl (by kernel_rfl) Try.func5 (by kernel_rfl)
    (of_decide_eq_true (by kernel_rfl)) (by unfold Func.isWrapper; first | (rw [if_pos (by decide +kernel)]; kernel_rfl) | (rw [if_neg (by decide +kernel)]; exact ⟨rfl, rfl⟩))
    (fun os started H enc _ => lifted os started H enc)
/-- The statement. -/
theorem proved : Rows.ValueDecodesSaid := over
#print axioms proved
end Go.Proofs.Ytmoggaecnjcjfaa.valueDecodes

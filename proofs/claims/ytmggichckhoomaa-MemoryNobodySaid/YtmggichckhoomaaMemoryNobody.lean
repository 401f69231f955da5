/-
  Proved here: whatever is asked of a memory that no call made, or of a nil one, the code of memory answers that there is none, and the example of the chapter stands. No condition.
-/
import Derived.Test.YtmggichckhoomaaMz
namespace Go.Proofs.Ytmggichckhoomaa.memoryNobody
open Go.ChangeShapes Go.WideShapes Go.ChangeAt Go.RowKit
set_option linter.unusedVariables false
set_option linter.unusedSimpArgs false
theorem blk_mk (w : World) (o : Obj) {W : World} {n : Nat} (hW : w.alloc o = W) (hn : w.heap.size = n) : W.heap[n]? = some o := by
  subst hW hn; exact heap_alloc_new w o
set_option maxRecDepth 100000 in
set_option maxHeartbeats 4000000 in
theorem walk (k s a x : Int) (A : Option Addr) (cap n : Nat) (w : World) :
    Calls Try.prog 4 #[.agg #[.int .i64 k, .int .i64 s, .int .u64 a, .int .u64 x, .slice A n cap]] w fun e w' => e = .returned (.bool true) ∧ Below w.heap.size w w' := by
  go_enter Try.func4, Try.ntmps4
  go_wp2_with fail
  obtain ⟨W, hW⟩ : ∃ W, (((w.alloc (Obj.cells #[.int .i64 k, .int .i64 s, .int .u64 a, .int .u64 x, .slice A n cap] 35)).alloc (Obj.cells #[.slice none 0 0] 37)).alloc (Obj.cells #[.pointer none, .pointer (some ⟨w.heap.size + 1, 0, none⟩)] 25)) = W := ⟨_, rfl⟩
  have hb : Below w.heap.size w W := by rw [← hW]; exact (((Below.refl _ _).alloc (Nat.le_refl _) _).alloc (by simp) _).alloc (by simp; omega) _
  have k0 : W.heap[w.heap.size]? = some (Obj.cells #[.int .i64 k, .int .i64 s, .int .u64 a, .int .u64 x, .slice A n cap] 35 (0, 0)) := by
    rw [← hW, Below.heap_alloc _ _ _ (by simp; omega), Below.heap_alloc _ _ _ (by simp)]; exact heap_alloc_new w _
  have k1 : W.heap[w.heap.size + 1]? = some (Obj.cells #[.slice none 0 0] 37 (0, 0)) := by
    rw [← hW, Below.heap_alloc _ _ _ (by simp)]; exact blk_mk _ _ rfl (by simp)
  have k2 : W.heap[w.heap.size + 1 + 1]? = some (Obj.cells #[.pointer none, .pointer (some ⟨w.heap.size + 1, 0, none⟩)] 25 (0, 0)) := by
    rw [← hW]; exact blk_mk _ _ rfl (by simp)
  rw [hW]
  clear hW
  have c0 := cell_of_row _ _ 0 _ _ _ k0
  have c1 := cell_of_row _ _ 1 _ _ _ k0
  have c2 := cell_of_row _ _ 2 _ _ _ k0
  have c3 := cell_of_row _ _ 3 _ _ _ k0
  have c4 := cell_of_row _ _ 4 _ _ _ k0
  have s0 := cell_of_row _ _ 0 _ _ _ k2
  have s1 := cell_of_row _ _ 1 _ _ _ k2
  simp at c0 c1 c2 c3 c4 s0 s1
  have U1 : Unmade W (.pointer none) := .inl rfl
  have U2 : Unmade W (.pointer (some ⟨w.heap.size + 1, 0, none⟩)) := .inr ⟨_, rfl, cell_of_row _ _ 0 _ _ _ k1⟩
  clear k0 k1 k2
  refine wp_loop_rounds 3 ?_
  rw [rounds_succ]
  go_wp2_with fail
  refine (uload_any _ _ _ _ U1).mono ?_
  rintro e w' ⟨rfl, rfl⟩
  go_wp2_with fail
  refine (ubytes_any _ _ _ _ U1).mono ?_
  rintro e w' ⟨rfl, rfl⟩
  go_wp2_with fail
  refine (ustore_any _ _ _ _ _ U1).mono ?_
  rintro e w' ⟨rfl, rfl⟩
  go_wp2_with fail
  refine (uput_any _ _ _ _ _ _ U1).mono ?_
  rintro e w' ⟨rfl, rfl⟩
  go_wp2_with fail
  refine (ulen_any _ _ U1).mono ?_
  rintro e w' ⟨rfl, rfl⟩
  go_wp2_with fail
  refine (uclone_any _ _ U1).mono ?_
  rintro e w' ⟨rfl, rfl⟩
  go_wp2_with fail
  rw [rounds_succ]
  go_wp2_with fail
  refine (uload_any _ _ _ _ U2).mono ?_
  rintro e w' ⟨rfl, rfl⟩
  go_wp2_with fail
  refine (ubytes_any _ _ _ _ U2).mono ?_
  rintro e w' ⟨rfl, rfl⟩
  go_wp2_with fail
  refine (ustore_any _ _ _ _ _ U2).mono ?_
  rintro e w' ⟨rfl, rfl⟩
  go_wp2_with fail
  refine (uput_any _ _ _ _ _ _ U2).mono ?_
  rintro e w' ⟨rfl, rfl⟩
  go_wp2_with fail
  refine (ulen_any _ _ U2).mono ?_
  rintro e w' ⟨rfl, rfl⟩
  go_wp2_with fail
  refine (uclone_any _ _ U2).mono ?_
  rintro e w' ⟨rfl, rfl⟩
  go_wp2_with fail
  rw [rounds_succ]
  go_wp2_with fail
  refine (mlives_any _).mono ?_
  rintro e w' ⟨rfl, hn⟩
  go_wp2_with fail
  go_ret
  exact ⟨rfl, hb.trans (hn.mono hb.size)⟩
/-! The row's step. -/
set_option maxRecDepth 100000 in
set_option maxHeartbeats 1000000 in
theorem lifted (os : Os) (started : os.Started) (H : Type) (enc : TypeId × Value → H) :
    ReturnsInHanded {} Try.checked os 4 .any (Rows.memoryNobodySpec.pre6 enc Try.prog Try.f4 Rows.memoryNobodyRow.domain false)
      (Rows.memoryNobodySpec.post enc Try.prog Try.f4 false true false false) := by
  refine returnsInHanded_of_change (C := Try.checked) own started (by kernel_rfl) Try.func4
    (ChangeSpec.witness6 (enc := enc) (C := Try.checked) false ⟨#[], #[.agg #[.int .i64 0, .int .i64 0, .int .u64 0, .int .u64 0, .slice none 0 0]], []⟩ 8 (by kernel_rfl) (by kernel_rfl) (by kernel_rfl) (by kernel_rfl)) ?_
  intro W base args ds gs before hval0 hW _ _
  have hval : ∀ (j : Nat) t v, Try.f4.params[j]? = some t → args[j]? = some v → Value.okWide Try.prog W .any base t v := hval0
  have hW' := hW
  obtain ⟨p, q, hA0, hV, rfl, hfz, hnd⟩ := hW
  have hA1 : DataW.TrodAll enc Try.prog W 0 (fun _ => true) true Try.f4.params.toList args.toList ds p := hA0
  have hA := hA1
  rw [Try.params4] at hA hval
  obtain ⟨v0, vs0, d0, ds0, p0, q0, hargs0, rfl, -, h0, r0⟩ := trodAll_cons hA
  obtain ⟨rfl, rfl, -⟩ := trodAll_nil r0
  obtain rfl : args = #[v0] := by cases args; simp_all
  obtain ⟨rfl, rfl⟩ := trodVars_none hV
  obtain ⟨ki0, si0, at0, va0, A0, cap0, bs0, rfl⟩ := open_act (hval 0 35 v0 rfl rfl) h0
  clear hval0
  simp only [List.append_nil] at hW'
  refine (walk ki0 si0 at0 va0 A0 cap0 bs0  W ).mono fun e W' ⟨he, hg⟩ => ?_
  subst he
  exact ⟨_, rfl, post_of_nb (pa := p) (pv := []) hW' (fun _ _ _ => (trodAll_cons_mk (shut_bool Try.underlying4 _) trodAll_mk0))
    (fun sp hsp => args_stay (by kernel_rfl) hg hA1 (fun t ht => by
      have h0 : (Try.f4.params.toList.all fun t => Try.prog.readableRec t && decide (t < Try.prog.types.size)) = true := by kernel_rfl
      have h1 := List.all_eq_true.1 h0 t ht
      rw [Bool.and_eq_true, decide_eq_true_eq] at h1
      exact h1) (fun x hx => hW'.lt x hx) hsp)
    (fun _ _ => rfl) (by simp) hg (ok_one (by kernel_rfl) rfl (okWide_bool_mk Try.underlying4 _))⟩
theorem over : Rows.memoryNobodyRow.holds Try.pinned (OpenSpec.ofChange Rows.memoryNobodySpec) :=
  OpenClaim.holds_of_wide 4 Try.f4 rfl rfl rfl rfl rfl rfl rfl ⟨rfl, rfl, rfl, rfl, rfl⟩ rfl rfl rfl rfl rfl (by kernel_rfl) Try.func4 (by kernel_rfl)
    (of_decide_eq_true (by kernel_rfl)) (by unfold Func.isWrapper; first | (rw [if_pos (by decide +kernel)]; kernel_rfl) | (rw [if_neg (by decide +kernel)]; exact ⟨rfl, rfl⟩))
    (fun os started H enc _ => lifted os started H enc)
/-- The statement. -/
theorem proved : Rows.MemoryNobodySaid := over
#print axioms proved
end Go.Proofs.Ytmggichckhoomaa.memoryNobody

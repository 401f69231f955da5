/-
  Proved here: insts, the iterator of an item's instructions: an instruction, a constant, a label. Conditions: a constant's number is a word.
-/
import Derived.Test.YtnooabgdcfegeaaDoorSax
namespace Go.Proofs.YtnooabgdcfegeaaDoor
open Go.RowKit Go.Shelf
set_option linter.unusedVariables false
set_option linter.unusedSimpArgs false
set_option maxRecDepth 100000
set_option maxHeartbeats 8000000
attribute [local go_sem] Oper.semAt_some
/-- A value that ranges over instructions, made between two worlds: its rounds may write below the first and in two blocks behind the second. -/
def ItOK (w0 w' : World) (fv : Value) (L : List In7) : Prop := ∃ g lb, fv = .func (.func g) #[] lb ∧ (∀ args w, (callFunc g args).run Tryd.prog w = .ok (.enter g args) w) ∧
  ∀ (X : Obj → Bool), XOk X → (∀ cs fr, X (.cells cs 37 fr) = false) → ∀ (R : Nat → Prop) (e : Nat), (∀ k, R k → k < w0.heap.size ∨ w'.heap.size ≤ k ∧ k < w'.heap.size + e) → ∀ n,
    SeqStopsO Fence.wide n Tryd.prog g lb (fun (i : In7) => #[.agg (i7C i).toArray]) (Kq X R) ImOk e (fun xs => xs = L) (fun q => q <+: L) L.length w'
theorem values_any (A : Option Addr) (m c : Nat) (w : World) : Calls Tryd.prog 63 #[.slice A m c] w fun r w' => r = .returned (.func (.func 79) #[] #[.pointer (some ⟨w.heap.size, 0, none⟩)]) ∧ w' = w.alloc (.cells #[.slice A m c] 41) := by
  have hmf : ∀ (fn : Fn) (first cap : Array Value) (w : World), (Instr.makeFunc fn first cap).run Tryd.prog w = .ok (.func fn first cap) w := fun _ _ _ _ => rfl
  go_enter Tryd.func63, Tryd.ntmps63
  go_wp2_with fail
  go_ret
  exact ⟨rfl, rfl⟩
theorem val_it {w0 w1 : World} {s : Value} {L : List In7} (hL : L.length ≤ 1000) (hIm : ∀ x ∈ L, ImOk x) (ho : w1.ownsRow w0.heap.size 37 7 s L.length (L.flatMap i7C)) (hn : Nb w0 w1) :
    ItOK w0 (w1.alloc (.cells #[s] 41)) (.func (.func 79) #[] #[.pointer (some ⟨w1.heap.size, 0, none⟩)]) L := by
  refine ⟨_, _, rfl, enters_of Tryd.func79 (by kernel_rfl) rfl, ?_⟩
  intro X hX hXi R e hR n l J Jx W hb hl hz hJ hJx hY h0
  have z : (w1.alloc (.cells #[s] 41)).heap.size = w1.heap.size + 1 := World.size_alloc _ _
  have hs0 : (w1.alloc (.cells #[s] 41)).heap[w1.heap.size]? = some (.cells #[s] 41 (0, 0)) := new_bkc _ _ rfl
  have n1 : Nb w1 (w1.alloc (.cells #[s] 41)) := Below.alloc (Below.refl _ _) (Nat.le_refl _) _
  have hoW : W.ownsRow w0.heap.size 37 7 s L.length (L.flatMap i7C) := ho.kept (row := none) ⟨(n1.trans hb).os, (n1.trans hb).tape, (n1.trans hb).output, (n1.trans hb).size, fun k hk _ => Below.block (n1.trans hb) k hk⟩ (by cases s.ownBlock <;> simp)
  refine callsIn_wide.2 ((val_any X hXi R l L.length W.heap.size J Jx hJ ?_ L hIm hL w1.heap.size w0.heap.size s [] W ((hb.block _ (by omega)).trans hs0) hoW ?_ h0 (by simp)).mono ?_)
  · intro m pre x W1 hx hj hlen
    obtain ⟨fn, tmps, assign, body, hy, hRd⟩ := hY pre x W1 hx hj hlen
    exact ⟨fn, tmps, assign, body, hy, RoundIn.anyDepthC hRd⟩
  · intro g hg hRg
    rcases ho.2 with ⟨rfl, _⟩ | ⟨g', cap, cur, rfl, hb', hg', _⟩
    · simp [Value.ownBlock] at hg
    · have e : g' = g := by simpa [Value.ownBlock] using hg
      subst e
      have hlt : g' < w1.heap.size := (Array.getElem?_eq_some_iff.1 hg').1
      rcases hR _ hRg with h | h <;> omega
  · rintro r W' ⟨hr, hj | ⟨q, hq, hx⟩⟩
    · exact ⟨hr, .inl ⟨_, rfl, by simpa using hj⟩⟩
    · exact ⟨hr, .inr ⟨q, hq, by simpa using hx⟩⟩
theorem con_it {w0 w1 : World} {rd v : Int} (h0 : 0 ≤ v) (h1 : v < 18446744073709551616) (hn : Nb w0 w1) :
    ItOK w0 ((w1.alloc (.cells #[.int .i64 rd] 3)).alloc (.cells #[.int .u64 v] 23)) (.func (.func 51) #[] #[.pointer (some ⟨w1.heap.size + 1, 0, none⟩), .pointer (some ⟨w1.heap.size, 0, none⟩)]) (conI rd v) := by
  refine ⟨_, _, rfl, enters_of Tryd.func51 (by kernel_rfl) rfl, ?_⟩
  intro X hX hXi R e hR n
  have z : ((w1.alloc (.cells #[.int .i64 rd] 3)).alloc (.cells #[.int .u64 v] 23)).heap.size = w1.heap.size + 2 := by rw [World.size_alloc, World.size_alloc]
  have hs := hn.size
  rw [z] at hR
  refine con_seq (con_ok rd v h0 h1) X hX R n (w1.heap.size + 1) w1.heap.size (fun h => by rcases hR _ h with h | h <;> omega) (fun h => by rcases hR _ h with h | h <;> omega) _ (new_bkc _ _ (by rw [World.size_alloc])) (Nb.block (show Nb _ _ from Below.alloc (Below.refl _ _) (Nat.le_refl _) _) (new_bkc _ _ rfl)) e (fun k hk => by rw [z]; rcases hR _ hk with h | h <;> omega)
def farI (to at_ : Int) : Int := wrap64 (IntKind.u64.wrap (to - at_))
theorem flat_len7 (L : List In7) : (L.flatMap i7C).length = L.length * 7 := by
  induction L with
  | nil => rfl
  | cons a r ih => rw [List.flatMap_cons, List.length_append, ih]; simp [i7C]; omega
theorem own_new {w : World} {base g : Nat} {L : List In7} (hg : w.heap[g]? = some (.cells (L.flatMap i7C).toArray 37 (0, 0))) (hb : base ≤ g) (hL : L.length ≤ 1000) :
    w.ownsRow base 37 7 (.slice (some ⟨g, 0, none⟩) L.length L.length) L.length (L.flatMap i7C) := by
  have e := flat_len7 L
  exact ⟨e, .inr ⟨g, L.length, _, rfl, hb, hg, Nat.le_refl _, by unfold maxLen; omega, by simpa using e, by rw [← e]; exact List.take_length⟩⟩
theorem insts_inst (o1 o2 o3 o4 o5 : Int) (o6 o7 : Bool) (hIm : ImOk (o1, o2, o3, o4, o5, o6, o7)) (nm : ByteArray) (v at_ to : Int) (long : Bool) (w : World) :
    Calls Tryd.prog 37 #[.agg #[.int .i64 1, .int .i64 o1, .int .i64 o2, .int .i64 o3, .int .i64 o4, .int .i64 o5, .bool o6, .bool o7, .string nm, .int .u64 v], .int .u64 at_, .int .u64 to, .bool long] w fun r w' => ∃ fv, r = .returned fv ∧ ItOK w w' fv [(o1, o2, o3, o4, o5, o6, o7)] ∧ Nb w w' := by
  go_enter Tryd.func37, Tryd.ntmps37
  go_upto_region 1 with (fail)
  obtain ⟨W1, hW1⟩ : ∃ W1, w.alloc (.cells #[.int .i64 1, .int .i64 o1, .int .i64 o2, .int .i64 o3, .int .i64 o4, .int .i64 o5, .bool o6, .bool o7, .string nm, .int .u64 v] 39) = W1 := ⟨_, rfl⟩
  have n1 : Nb w W1 := by rw [← hW1]; exact Below.alloc (Below.refl _ _) (Nat.le_refl _) _
  have b1 : W1.heap[w.heap.size]? = some (.cells #[.int .i64 1, .int .i64 o1, .int .i64 o2, .int .i64 o3, .int .i64 o4, .int .i64 o5, .bool o6, .bool o7, .string nm, .int .u64 v] 39 (0, 0)) := by rw [← hW1]; exact new_bkc _ _ rfl
  rw [hW1]
  clear hW1
  have c0 := cell_of_row _ _ 0 _ _ _ b1
  have c1 := cell_of_row _ _ 1 _ _ _ b1
  have c2 := cell_of_row _ _ 2 _ _ _ b1
  have c3 := cell_of_row _ _ 3 _ _ _ b1
  have c4 := cell_of_row _ _ 4 _ _ _ b1
  have c5 := cell_of_row _ _ 5 _ _ _ b1
  have c6 := cell_of_row _ _ 6 _ _ _ b1
  have c7 := cell_of_row _ _ 7 _ _ _ b1
  have c8 := cell_of_row _ _ 8 _ _ _ b1
  have c9 := cell_of_row _ _ 9 _ _ _ b1
  go_upto_region 15 with (fail)
  obtain ⟨W2, hW2⟩ : ∃ W2, W1.alloc (.cells #[.int .i64 o1, .int .i64 o2, .int .i64 o3, .int .i64 o4, .int .i64 o5, .bool o6, .bool o7] 37) = W2 := ⟨_, rfl⟩
  have n2 : Nb W1 W2 := by rw [← hW2]; exact Below.alloc (Below.refl _ _) (Nat.le_refl _) _
  have b2 : W2.heap[W1.heap.size]? = some (.cells ([(o1, o2, o3, o4, o5, o6, o7)].flatMap i7C).toArray 37 (0, 0)) := by rw [← hW2]; exact new_bkc _ _ rfl
  rw [hW2]
  clear hW2 b1
  clear c0 c1 c2 c3 c4 c5 c6 c7 c8 c9
  have ho := own_new b2 n1.size (by simp)
  replace ho : W2.ownsRow w.heap.size 37 7 (.slice (some ⟨W1.heap.size, 0, none⟩) 1 1) 1 _ := ho
  have hIt := Lib.hid (val_it (w0 := w) (by simp) (fun x hx => by rw [List.mem_singleton] at hx; subst hx; exact hIm) ho (n1.trans n2))
  have hval := Lib.hid (values_any (some ⟨W1.heap.size, 0, none⟩) 1 1)
  go_wp2_with (go_at_call 63; refine (hval.out _).mono ?_; rintro r w5 ⟨rfl, hw5⟩)
  go_ret
  subst hw5
  exact ⟨_, rfl, hIt.out, Nb.trans (n1.trans n2) (Below.alloc (Below.refl _ _) (Nat.le_refl _) _)⟩
theorem insts_none (k o1 o2 o3 o4 o5 : Int) (o6 o7 : Bool) (nm : ByteArray) (v at_ to : Int) (long : Bool) (hk : k ≠ 1 ∧ k ≠ 3 ∧ k ≠ 4 ∧ k ≠ 5 ∧ k ≠ 6) (w : World) :
    Calls Tryd.prog 37 #[.agg #[.int .i64 k, .int .i64 o1, .int .i64 o2, .int .i64 o3, .int .i64 o4, .int .i64 o5, .bool o6, .bool o7, .string nm, .int .u64 v], .int .u64 at_, .int .u64 to, .bool long] w fun r w' => ∃ fv, r = .returned fv ∧ ItOK w w' fv [] ∧ Nb w w' := by
  go_enter Tryd.func37, Tryd.ntmps37
  go_upto_region 1 with (fail)
  obtain ⟨W1, hW1⟩ : ∃ W1, w.alloc (.cells #[.int .i64 k, .int .i64 o1, .int .i64 o2, .int .i64 o3, .int .i64 o4, .int .i64 o5, .bool o6, .bool o7, .string nm, .int .u64 v] 39) = W1 := ⟨_, rfl⟩
  have n1 : Nb w W1 := by rw [← hW1]; exact Below.alloc (Below.refl _ _) (Nat.le_refl _) _
  have b1 : W1.heap[w.heap.size]? = some (.cells #[.int .i64 k, .int .i64 o1, .int .i64 o2, .int .i64 o3, .int .i64 o4, .int .i64 o5, .bool o6, .bool o7, .string nm, .int .u64 v] 39 (0, 0)) := by rw [← hW1]; exact new_bkc _ _ rfl
  rw [hW1]
  clear hW1
  have c0 := cell_of_row _ _ 0 _ _ _ b1
  have c1 := cell_of_row _ _ 1 _ _ _ b1
  have c2 := cell_of_row _ _ 2 _ _ _ b1
  have c3 := cell_of_row _ _ 3 _ _ _ b1
  have c4 := cell_of_row _ _ 4 _ _ _ b1
  have c5 := cell_of_row _ _ 5 _ _ _ b1
  have c6 := cell_of_row _ _ 6 _ _ _ b1
  have c7 := cell_of_row _ _ 7 _ _ _ b1
  have c8 := cell_of_row _ _ 8 _ _ _ b1
  have c9 := cell_of_row _ _ 9 _ _ _ b1
  have q1 : (k == 1) = false := beq_false_of_ne (by omega)
  have q3 : (k == 3) = false := beq_false_of_ne (by omega)
  have q4 : (k == 4) = false := beq_false_of_ne (by omega)
  have q5 : (k == 5) = false := beq_false_of_ne (by omega)
  have q6 : (k == 6) = false := beq_false_of_ne (by omega)
  clear hk
  go_upto_region 15 with (fail)
  clear b1
  clear c0 c1 c2 c3 c4 c5 c6 c7 c8 c9
  have ho : W1.ownsRow w.heap.size 37 7 (.slice none 0 0) ([] : List In7).length (([] : List In7).flatMap i7C) := World.ownsRow_nil _ _ _ _
  have hIt := Lib.hid (val_it (w0 := w) (by simp) (fun x hx => by cases hx) ho n1)
  have hval := Lib.hid (values_any none 0 0)
  go_wp2_with (go_at_call 63; refine (hval.out _).mono ?_; rintro r w5 ⟨rfl, hw5⟩)
  go_ret
  subst hw5
  exact ⟨_, rfl, hIt.out, Nb.trans n1 (Below.alloc (Below.refl _ _) (Nat.le_refl _) _)⟩
theorem insts_const (o1 o2 o3 o4 o5 : Int) (o6 o7 : Bool) (nm : ByteArray) (v at_ to : Int) (long : Bool) (h0 : 0 ≤ v) (h1 : v < 18446744073709551616) (w : World) :
    Calls Tryd.prog 37 #[.agg #[.int .i64 6, .int .i64 o1, .int .i64 o2, .int .i64 o3, .int .i64 o4, .int .i64 o5, .bool o6, .bool o7, .string nm, .int .u64 v], .int .u64 at_, .int .u64 to, .bool long] w fun r w' => ∃ fv, r = .returned fv ∧ ItOK w w' fv (conI o2 v) ∧ Nb w w' := by
  go_enter Tryd.func37, Tryd.ntmps37
  go_upto_region 1 with (fail)
  obtain ⟨W1, hW1⟩ : ∃ W1, w.alloc (.cells #[.int .i64 6, .int .i64 o1, .int .i64 o2, .int .i64 o3, .int .i64 o4, .int .i64 o5, .bool o6, .bool o7, .string nm, .int .u64 v] 39) = W1 := ⟨_, rfl⟩
  have n1 : Nb w W1 := by rw [← hW1]; exact Below.alloc (Below.refl _ _) (Nat.le_refl _) _
  have b1 : W1.heap[w.heap.size]? = some (.cells #[.int .i64 6, .int .i64 o1, .int .i64 o2, .int .i64 o3, .int .i64 o4, .int .i64 o5, .bool o6, .bool o7, .string nm, .int .u64 v] 39 (0, 0)) := by rw [← hW1]; exact new_bkc _ _ rfl
  rw [hW1]
  clear hW1
  have c0 := cell_of_row _ _ 0 _ _ _ b1
  have c1 := cell_of_row _ _ 1 _ _ _ b1
  have c2 := cell_of_row _ _ 2 _ _ _ b1
  have c3 := cell_of_row _ _ 3 _ _ _ b1
  have c4 := cell_of_row _ _ 4 _ _ _ b1
  have c5 := cell_of_row _ _ 5 _ _ _ b1
  have c6 := cell_of_row _ _ 6 _ _ _ b1
  have c7 := cell_of_row _ _ 7 _ _ _ b1
  have c8 := cell_of_row _ _ 8 _ _ _ b1
  have c9 := cell_of_row _ _ 9 _ _ _ b1
  have hIt := Lib.hid (con_it (rd := o2) h0 h1 n1)
  have hcst := Lib.hid (constant_any o2 v W1)
  clear h0 h1
  go_wp2_with (go_at_call 26; refine hcst.out.mono ?_; rintro r w5 ⟨rfl, hw5⟩)
  go_ret
  subst hw5
  exact ⟨_, rfl, hIt.out, n1.trans (Below.alloc (Below.alloc (Below.refl _ _) (Nat.le_refl _) _) (by rw [World.size_alloc]; omega) _)⟩
end Go.Proofs.YtnooabgdcfegeaaDoor

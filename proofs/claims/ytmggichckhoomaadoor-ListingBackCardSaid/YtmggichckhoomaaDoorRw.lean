/-
  Proved here: what Row of the reference answers for every operation: the row of its table. No condition.
-/
import Derived.Test.YtmggichckhoomaaDoorRt
import Derived.Great.Walk
import Derived.Deep.WholeRow
import Derived.Deep.Cut
namespace Go.Proofs.YtmggichckhoomaaDoor
open Go.RowKit Go.Great
set_option linter.unusedVariables false

def rowCells4 (x : R4) : List Value := [.int .i64 x.1, .int .i64 x.2.1, .int .i64 x.2.2.1, .int .i64 x.2.2.2]
def r4Op (pos : String) (d : Nat) (x : R4) : Oper :=
  { dst := some d, op := .build 55 #[(0, .const (.int .i64 x.1)), (1, .const (.int .i64 x.2.1)), (2, .const (.int .i64 x.2.2.1)), (3, .const (.int .i64 x.2.2.2))], type := 55, pos := pos, after := #[], guard := .none }
def r4Ops (pos : String) : Nat → List R4 → List Oper
  | _, [] => []
  | d, x :: xs => r4Op pos d x :: r4Ops pos (d + 1) xs
def posOf : List Oper → String
  | o :: _ => o.pos
  | [] => ""

/-- The builds of the inner rows, whatever their number. -/
theorem wpList_r4s {P : Program} {ops : Array Oper} {rest : List Oper} {w : World} {Q : Exit → Act → World → Prop} (pos : String)
    (hb : ∀ x y z u : Int, P.built 55 [(0, .int .i64 x), (1, .int .i64 y), (2, .int .i64 z), (3, .int .i64 u)] = some #[.int .i64 x, .int .i64 y, .int .i64 z, .int .i64 u]) :
    ∀ (xs : List R4) (d : Nat) (a : Act), d + xs.length ≤ a.tmps.size →
      (∀ a' : Act, a'.tmps.size = a.tmps.size → a'.defers = a.defers → (∀ i (h : i < xs.length), a'.eval (.tmp (d + i)) = .agg (rowCells4 xs[i]).toArray) →
        (∀ j, j < d → a'.eval (.tmp j) = a.eval (.tmp j)) → wpList P ops Q rest a' w) →
      wpList P ops Q (r4Ops pos d xs ++ rest) a w
  | [], d, a, _, h => h a rfl rfl (fun i hi => absurd hi (by simp)) (fun _ _ => rfl)
  | x :: xs, d, a, hd, h => by
    have hlt : d < a.tmps.size := by simp at hd; omega
    show wpList P ops Q (r4Op pos d x :: (r4Ops pos (d + 1) xs ++ rest)) a w
    refine wpList_buildTo rfl 55 _ rfl (some d) rfl (rowCells4 x).toArray (by simpa [Act.eval, rowCells4] using hb x.1 x.2.1 x.2.2.1 x.2.2.2) ?_
    refine wpList_r4s pos hb xs (d + 1) _ (by rw [Act.size_put]; simp at hd; omega) fun a' hs hdf hev hlow => ?_
    refine h a' (hs.trans (Act.size_put _ _ _)) (hdf.trans (Act.defers_put' _ _ _)) (fun i hi => ?_) (fun j hj => ?_)
    · cases i with
      | zero => rw [Nat.add_zero, hlow d (by omega), Act.eval_put_same _ _ _ hlt]; rfl
      | succ i =>
        have := hev i (by simpa using hi)
        rw [show d + (i + 1) = d + 1 + i by omega, this]
        rfl
    · rw [hlow j (by omega), Act.eval_put_ne _ _ _ _ (by omega)]

theorem wpList_r4All {P : Program} {ops : Array Oper} {w : World} {Q : Exit → Act → World → Prop} {l : List Oper} {a : Act} (hl : l = r4Ops (posOf l) 4 rowTab ++ l.drop 87)
    (hb : ∀ x y z u : Int, P.built 55 [(0, .int .i64 x), (1, .int .i64 y), (2, .int .i64 z), (3, .int .i64 u)] = some #[.int .i64 x, .int .i64 y, .int .i64 z, .int .i64 u])
    (hz : 4 + rowTab.length ≤ a.tmps.size)
    (h : ∀ a' : Act, a'.tmps.size = a.tmps.size → a'.defers = a.defers → (∀ i (h : i < rowTab.length), a'.eval (.tmp (4 + i)) = .agg (rowCells4 rowTab[i]).toArray) →
        (∀ j, j < 4 → a'.eval (.tmp j) = a.eval (.tmp j)) → wpList P ops Q (l.drop 87) a' w) : wpList P ops Q l a w := by
  rw [hl]
  exact wpList_r4s _ hb rowTab 4 a hz h

/-- All cells of the table, one behind the other. -/
def rowCells : Array Value := (rowTab.flatMap rowCells4).toArray

theorem wpList_table {P : Program} {ops : Array Oper} {rest : List Oper} {o : Oper} {a : Act} {w : World} {Q : Exit → Act → World → Prop} (hg : o.guard = .none) (parts : Array (Nat × Operand)) (ho : o.op = .build 82 parts) (hd : o.dst = some 91)
    (hparts : parts.toList = (List.range 87).map fun i => (i, Operand.tmp (4 + i)))
    (hev : ∀ i (h : i < rowTab.length), a.eval (.tmp (4 + i)) = .agg (rowCells4 rowTab[i]).toArray)
    (hb : P.built 82 ((List.range 87).map fun i => (i, Value.agg (rowCells4 (rowTab.getD i (0, 0, 0, 0))).toArray)) = some rowCells)
    (h : wpList P ops Q rest (a.put (some 91) (.agg rowCells)) w) : wpList P ops Q (o :: rest) a w := by
  refine wpList_buildTo hg 82 parts ho (some 91) hd rowCells ?_ h
  rw [Array.toList_map, hparts, List.map_map, ← hb]
  congr 1
  apply List.map_congr_left
  intro i hi
  have hi' : i < rowTab.length := List.mem_range.1 hi
  show (i, a.eval (.tmp (4 + i))) = _
  rw [hev i hi', List.getD_eq_getElem?_getD, List.getElem?_eq_getElem hi']
  rfl

theorem flat4 : ∀ (l : List R4) (i j : Nat), j < 4 → i < l.length → (l.flatMap rowCells4)[i * 4 + j]? = (rowCells4 (l.getD i (0, 0, 0, 0)))[j]?
  | [], i, j, _, h => absurd h (by simp)
  | x :: l, 0, j, hj, _ => by
    rw [List.flatMap_cons, Nat.zero_mul, Nat.zero_add, List.getElem?_append_left (by simpa [rowCells4] using hj)]; rfl
  | x :: l, i + 1, j, hj, h => by
    have := flat4 l i j hj (by simpa using h)
    rw [List.flatMap_cons, List.getElem?_append_right (by simp [rowCells4]; omega)]
    have e : (i + 1) * 4 + j - (rowCells4 x).length = i * 4 + j := by simp [rowCells4]; omega
    rw [e, this]; rfl
theorem row_at (op : Int) (j : Nat) (hj : j < 4) (h0 : 1 ≤ op) (h1 : op ≤ 87) : rowCells[(op.toNat - 1) * 4 + j]? = (rowCells4 (refRow op))[j]? := by
  rw [ref_yes op h0 h1, ← flat4 rowTab (op.toNat - 1) j hj (by show _ < 87; omega)]
  simp [rowCells]

/-- A list of so many, taken apart. -/
theorem list8 {α : Type} {n : Nat} {l : List α} (h : l.length = n + 8) : ∃ a b c d e f g i r, l = a :: b :: c :: d :: e :: f :: g :: i :: r ∧ r.length = n := by
  match l, h with
  | a :: b :: c :: d :: e :: f :: g :: i :: r, h => exact ⟨a, b, c, d, e, f, g, i, r, rfl, by simpa using h⟩

theorem frame_lit (a : Act) (v0 v2 v3 : Value) (hs : a.tmps.size = 103) (hd : a.defers = []) (e0 : a.eval (.tmp 0) = v0) (e2 : a.eval (.tmp 2) = v2) (e3 : a.eval (.tmp 3) = v3) :
    ∃ x1 x4 x5 x6 x7 x8 x9 x10 x11 x12 x13 x14 x15 x16 x17 x18 x19 x20 x21 x22 x23 x24 x25 x26 x27 x28 x29 x30 x31 x32 x33 x34 x35 x36 x37 x38 x39 x40 x41 x42 x43 x44 x45 x46 x47 x48 x49 x50 x51 x52 x53 x54 x55 x56 x57 x58 x59 x60 x61 x62 x63 x64 x65 x66 x67 x68 x69 x70 x71 x72 x73 x74 x75 x76 x77 x78 x79 x80 x81 x82 x83 x84 x85 x86 x87 x88 x89 x90 x91 x92 x93 x94 x95 x96 x97 x98 x99 x100 x101 x102, a = { tmps := #[v0, x1, v2, v3, x4, x5, x6, x7, x8, x9, x10, x11, x12, x13, x14, x15, x16, x17, x18, x19, x20, x21, x22, x23, x24, x25, x26, x27, x28, x29, x30, x31, x32, x33, x34, x35, x36, x37, x38, x39, x40, x41, x42, x43, x44, x45, x46, x47, x48, x49, x50, x51, x52, x53, x54, x55, x56, x57, x58, x59, x60, x61, x62, x63, x64, x65, x66, x67, x68, x69, x70, x71, x72, x73, x74, x75, x76, x77, x78, x79, x80, x81, x82, x83, x84, x85, x86, x87, x88, x89, x90, x91, x92, x93, x94, x95, x96, x97, x98, x99, x100, x101, x102], defers := [] } := by
  obtain ⟨⟨l⟩, d⟩ := a
  obtain rfl : d = [] := hd
  have hl : l.length = 103 := hs
  clear hs
  obtain ⟨x0, x1, x2, x3, x4, x5, x6, x7, r0, rfl, h0⟩ := list8 (n := 95) (l := l) hl
  obtain ⟨x8, x9, x10, x11, x12, x13, x14, x15, r1, rfl, h1⟩ := list8 (n := 87) (l := r0) h0
  obtain ⟨x16, x17, x18, x19, x20, x21, x22, x23, r2, rfl, h2⟩ := list8 (n := 79) (l := r1) h1
  obtain ⟨x24, x25, x26, x27, x28, x29, x30, x31, r3, rfl, h3⟩ := list8 (n := 71) (l := r2) h2
  obtain ⟨x32, x33, x34, x35, x36, x37, x38, x39, r4, rfl, h4⟩ := list8 (n := 63) (l := r3) h3
  obtain ⟨x40, x41, x42, x43, x44, x45, x46, x47, r5, rfl, h5⟩ := list8 (n := 55) (l := r4) h4
  obtain ⟨x48, x49, x50, x51, x52, x53, x54, x55, r6, rfl, h6⟩ := list8 (n := 47) (l := r5) h5
  obtain ⟨x56, x57, x58, x59, x60, x61, x62, x63, r7, rfl, h7⟩ := list8 (n := 39) (l := r6) h6
  obtain ⟨x64, x65, x66, x67, x68, x69, x70, x71, r8, rfl, h8⟩ := list8 (n := 31) (l := r7) h7
  obtain ⟨x72, x73, x74, x75, x76, x77, x78, x79, r9, rfl, h9⟩ := list8 (n := 23) (l := r8) h8
  obtain ⟨x80, x81, x82, x83, x84, x85, x86, x87, r10, rfl, h10⟩ := list8 (n := 15) (l := r9) h9
  obtain ⟨x88, x89, x90, x91, x92, x93, x94, x95, r11, rfl, h11⟩ := list8 (n := 7) (l := r10) h10
  match r11, h11 with
  | [x96, x97, x98, x99, x100, x101, x102], _ =>
    subst e0 e2 e3
    exact ⟨_, _, _, _, _, _, _, _, _, _, _, _, _, _, _, _, _, _, _, _, _, _, _, _, _, _, _, _, _, _, _, _, _, _, _, _, _, _, _, _, _, _, _, _, _, _, _, _, _, _, _, _, _, _, _, _, _, _, _, _, _, _, _, _, _, _, _, _, _, _, _, _, _, _, _, _, _, _, _, _, _, _, _, _, _, _, _, _, _, _, _, _, _, _, _, _, _, _, _, _, rfl⟩

set_option maxRecDepth 100000 in
set_option maxHeartbeats 2000000 in
theorem row_any (op : Int) (w : World) :
    Calls Tryd.prog 27 #[.int .i64 op] w fun e w' => e = .returned (.agg #[.int .i64 (refRow op).1, .int .i64 (refRow op).2.1, .int .i64 (refRow op).2.2.1, .int .i64 (refRow op).2.2.2]) ∧ Nw w w' := by
  go_enter Tryd.func27, Tryd.ntmps27
  go_upto_region 1 with (fail)
  apply wp_region_list
  refine wpList_r4All (by as_aux_lemma => kernel_rfl) (fun _ _ _ _ => by kernel_rfl) (Nat.le_of_ble_eq_true (by kernel_rfl)) ?_
  intro a' hs hd hev hlow
  have hs' : a'.tmps.size = 103 := hs.trans (by kernel_rfl)
  have hd' : a'.defers = [] := hd
  have h0 : a'.eval (.tmp 0) = .int .i64 op := hlow 0 (by decide)
  have h2 : a'.eval (.tmp 2) = .pointer (some ⟨w.heap.size, 0, none⟩) := hlow 2 (by decide)
  clear hs hd hlow
  refine wpList_table rfl _ rfl rfl (by as_aux_lemma => kernel_rfl) hev (by as_aux_lemma => kernel_rfl) ?_
  clear hev
  generalize hW : w.alloc (.cells #[.int .i64 0, .int .i64 0, .int .i64 0, .int .i64 0] 55) = W1
  refine wpList_allocTo rfl (some 3) rfl (.pointer (some ⟨W1.heap.size, 0, none⟩)) (.cells (Array.replicate 348 (.int .i64 0)) 82) (by as_aux_lemma => kernel_rfl) ?_
  refine wpList_store_rowTo rfl 82 (.tmp 3) (.tmp 91) rfl rfl W1.heap.size rowCells (Act.eval_put_same _ _ _ (by rw [Act.size_put, hs']; decide)) ?_ 82 (Array.replicate 348 (.int .i64 0)) (heap_alloc_new _ _) (by kernel_rfl) (by kernel_rfl) (by kernel_rfl) ?_
  · rw [Act.eval_put_ne _ _ _ _ (by decide), Act.eval_put_same _ _ _ (by rw [hs']; decide)]
  refine wpList_nil ?_
  rename_i hK
  refine hK _ _ ?_
  clear hK
  rw [World.setRow_alloc_new]
  have s3 : ((a'.put (some 91) (Value.agg rowCells)).put (some 3) (Value.pointer (some ⟨W1.heap.size, 0, none⟩))).tmps.size = 103 := by rw [Act.size_put, Act.size_put, hs']
  obtain ⟨x1, x4, x5, x6, x7, x8, x9, x10, x11, x12, x13, x14, x15, x16, x17, x18, x19, x20, x21, x22, x23, x24, x25, x26, x27, x28, x29, x30, x31, x32, x33, x34, x35, x36, x37, x38, x39, x40, x41, x42, x43, x44, x45, x46, x47, x48, x49, x50, x51, x52, x53, x54, x55, x56, x57, x58, x59, x60, x61, x62, x63, x64, x65, x66, x67, x68, x69, x70, x71, x72, x73, x74, x75, x76, x77, x78, x79, x80, x81, x82, x83, x84, x85, x86, x87, x88, x89, x90, x91, x92, x93, x94, x95, x96, x97, x98, x99, x100, x101, x102, ha⟩ := frame_lit _ (.int .i64 op) (.pointer (some ⟨w.heap.size, 0, none⟩)) (.pointer (some ⟨W1.heap.size, 0, none⟩)) s3 (by rw [Act.defers_put', Act.defers_put', hd'])
    (by rw [Act.eval_put_ne _ _ _ _ (by decide), Act.eval_put_ne _ _ _ _ (by decide), h0]) (by rw [Act.eval_put_ne _ _ _ _ (by decide), Act.eval_put_ne _ _ _ _ (by decide), h2])
    (Act.eval_put_same _ _ _ (by rw [Act.size_put, hs']; decide))
  rw [ha]
  clear ha s3 h0 h2 hs' hd'
  subst hW
  by_cases h : op < 1 ∨ 87 < op
  · have E := Lib.hid (ref_no op h)
    generalize rowCells = T
    by_cases c : op < 1
    · clear h
      go_wp2
      exact bodyPost_ret (v := .agg #[.int .i64 0, .int .i64 0, .int .i64 0, .int .i64 0]) (by simp [results, Tryd.results27, go_sem]) rfl ⟨by rw [E.out], ((Nw.refl _).alloc _ _).alloc _ _⟩
    · have c' : 87 < op := by omega
      clear h
      go_wp2
      exact bodyPost_ret (v := .agg #[.int .i64 0, .int .i64 0, .int .i64 0, .int .i64 0]) (by simp [results, Tryd.results27, go_sem]) rfl ⟨by rw [E.out], ((Nw.refl _).alloc _ _).alloc _ _⟩
  · have f0 : 1 ≤ op := by omega
    have f1 : op ≤ 87 := by omega
    have t0 : rowCells[(op.toNat - 1) * 4]? = some (.int .i64 (refRow op).1) := row_at op 0 (by decide) f0 f1
    have t1 : rowCells[(op.toNat - 1) * 4 + 1]? = some (.int .i64 (refRow op).2.1) := row_at op 1 (by decide) f0 f1
    have t2 : rowCells[(op.toNat - 1) * 4 + 2]? = some (.int .i64 (refRow op).2.2.1) := row_at op 2 (by decide) f0 f1
    have t3 : rowCells[(op.toNat - 1) * 4 + 3]? = some (.int .i64 (refRow op).2.2.2) := row_at op 3 (by decide) f0 f1
    generalize rowCells = T at *
    obtain ⟨r0, e0⟩ : ∃ r, r = (refRow op).1 := ⟨_, rfl⟩
    obtain ⟨r1, e1⟩ : ∃ r, r = (refRow op).2.1 := ⟨_, rfl⟩
    obtain ⟨r2, e2⟩ : ∃ r, r = (refRow op).2.2.1 := ⟨_, rfl⟩
    obtain ⟨r3, e3⟩ : ∃ r, r = (refRow op).2.2.2 := ⟨_, rfl⟩
    rw [← e0] at t0
    rw [← e1] at t1
    rw [← e2] at t2
    rw [← e3] at t3
    have E0 := Lib.hid e0
    have E1 := Lib.hid e1
    have E2 := Lib.hid e2
    have E3 := Lib.hid e3
    clear e0 e1 e2 e3
    clear h
    go_wp2
    exact bodyPost_ret (v := .agg #[.int .i64 r0, .int .i64 r1, .int .i64 r2, .int .i64 r3]) (by simp [results, Tryd.results27, go_sem]) rfl ⟨by rw [E0.out, E1.out, E2.out, E3.out], ((Nw.refl _).alloc _ _).alloc _ _⟩
end Go.Proofs.YtmggichckhoomaaDoor

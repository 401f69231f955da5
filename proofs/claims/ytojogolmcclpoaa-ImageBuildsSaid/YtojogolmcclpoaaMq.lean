/-
  Proved here: what New, Len, Bytes, Put and Clone of the code answer, and what stands in memory behind them. Conditions: the memory is one that a call made, of at most 2^24 bytes.
-/
import Derived.Test.YtojogolmcclpoaaMp
namespace Go.Proofs.Ytojogolmcclpoaa
open Go.RowKit
set_option linter.unusedVariables false
set_option linter.unusedSimpArgs false
set_option maxRecDepth 100000 in
theorem info5 : (Try.prog.info? 5).map (fun i => (i.zero, i.size, i.bytes)) = some (some (.int .u8 0), 1, 1) := by kernel_rfl
theorem cells_zero (n : Nat) : madeCells (Value.int .u8 0).cells (n * 1) = (Lib.byteCells (List.replicate n 0)).toArray := by
  apply Array.ext'
  rw [show (Value.int .u8 0).cells = #[.int .u8 0] from rfl, toList_madeCells_one]
  simp [Lib.byteCells]
/-- 'make([]byte, n)': so many bytes 0 in a block of their own. -/
theorem wpList_make_zero {P : Program} (w : World) {ops : Array Oper} {rest : List Oper} {o : Oper} {a : Act} {Q : Exit → Act → World → Prop}
    (hg : o.guard = none) (l c : Operand) (t : TypeId) (hop : o.op = Op.makeSlice t l c)
    (e : TypeId) (i : TypeInfo) (h1 : P.underlying t = some (.slice e)) (h2 : P.info? e = some i) (h3 : i.zero = some (.int .u8 0)) (h4 : i.size = 1) (h5 : i.bytes = 1)
    (kl kc : IntKind) (L C : Int) (n : Nat) (hl : a.eval l = .int kl L) (hc : a.eval c = .int kc C) (hL : L = (n : Int)) (hC : C = (n : Int)) (b2 : n ≤ 281474976710656)
    (hK : wpList P ops Q rest (a.put o.dst (.slice (some ⟨w.heap.size, 0, none⟩) n n)) (w.alloc (.cells (Lib.byteCells (List.replicate n 0)).toArray e))) :
    wpList P ops Q (o :: rest) a w := by
  refine wpList_plain hg fun K hK' => ?_
  subst hL
  subst hC
  have hr := run_make (P := P) w t e i (.int .u8 0) h1 h2 h3 kl kc n n (by omega) (Int.le_refl _) (by rw [h5]; omega) (by omega)
  rw [h4] at hr
  simp only [Int.toNat_natCast] at hr
  rw [cells_zero] at hr
  unfold Oper.wp
  simp [execOp, hop, hl, hc, hr, Result.andThen]
  exact hK' _ _ hK
def MadeM (T : TypeId) (n : Nat) (w : World) (e : Ending) (w' : World) : Prop :=
  e = .returned (.pointer (some ⟨w.heap.size + 1, 0, none⟩)) ∧ Mem T w' (w.heap.size + 1) w.heap.size (List.replicate n 0) ∧ Below w.heap.size w w' ∧ w'.heap.size = w.heap.size + 2
theorem mem_made (T : TypeId) (n : Nat) (w : World) : Mem T ((w.alloc (.cells (Lib.byteCells (List.replicate n 0)).toArray 5)).alloc (.cells #[.slice (some ⟨w.heap.size, 0, none⟩) n n] T)) (w.heap.size + 1) w.heap.size (List.replicate n 0) := by
  refine ⟨?_, ?_⟩
  · have := heap_alloc_new (w.alloc (.cells (Lib.byteCells (List.replicate n 0)).toArray 5)) (.cells #[.slice (some ⟨w.heap.size, 0, none⟩) n n] T)
    rw [World.size_alloc] at this
    rw [List.length_replicate]; exact this
  · rw [Below.heap_alloc _ _ _ (by simp)]; exact heap_alloc_new w _
set_option maxRecDepth 100000 in
theorem new_any (n : Nat) (hn : n ≤ 16777216) (w : World) :
    Calls Try.prog 22 #[.int .i64 (n : Int)] w (MadeM 60 n w) := by
  obtain ⟨i0, hi, hz0, hz1, hz2⟩ := info_parts info5
  have hn' : (n : Int) ≤ 16777216 := by omega
  go_enter Try.func22, Try.ntmps22
  go_wp2_with (refine wpList_make_zero _ rfl _ _ 44 rfl 5 i0 Try.underlying44 hi hz0 hz1 hz2 .i64 .i64 _ _ n rfl rfl rfl rfl (by omega) ?_)
  go_ret
  exact ⟨rfl, mem_made _ n w, ((Below.refl _ _).alloc (Nat.le_refl _) _).alloc (by simp) _, by simp⟩
set_option maxRecDepth 100000 in
theorem len_any (p b : Nat) (bs : By) (w : World) (hM : Mem 60 w p b bs) :
    Calls Try.prog 17 #[.pointer (some ⟨p, 0, none⟩)] w fun e w' => e = .returned (.int .i64 bs.length) ∧ w = w' := by
  have hc := hM.head
  go_enter Try.func17, Try.ntmps17
  go_wp2_with fail
  refine (made_any p b bs _ hM).mono ?_
  rintro e w' ⟨rfl, rfl⟩
  go_wp2_with fail
  go_ret
  exact ⟨rfl, rfl⟩
theorem splice_whole {α : Type} (L cs : List α) (h : cs.length = L.length) : splice L 0 cs = cs := by simp [splice, h]
/-- The bytes of a part, in a block of their own. -/
def BytesOk (bs : By) (at_ k : Nat) (w : World) (e : Ending) (w' : World) : Prop :=
  e = .returned (.tuple #[.slice (some ⟨w.heap.size, 0, none⟩) k k, .int .i64 0]) ∧ w'.heap[w.heap.size]? = some (.cells (Lib.byteCells ((bs.drop at_).take k)).toArray 5 (0, 0)) ∧ Below w.heap.size w w'
theorem addr_add (b a j : Nat) : (⟨b, a, none⟩ : Addr).add j = ⟨b, a + j, none⟩ := by unfold Addr.add; split <;> simp_all
theorem byte_cells_one (l : By) : ∀ v ∈ Lib.byteCells l, v.oneCell' = true := by
  intro v hv
  obtain ⟨c, -, rfl⟩ := List.mem_map.1 hv
  rfl
theorem src_part {w : World} {b : Nat} {bs : By} (hb : w.heap[b]? = some (.cells (Lib.byteCells bs).toArray 5 (0, 0))) (at_ k : Nat) : ∀ j v, (Lib.byteCells ((bs.drop at_).take k))[j]? = some v → w.cell? ((⟨b, at_, none⟩ : Addr).add j) = some v := by
  intro j v hv
  rw [addr_add, cell_of_row _ _ _ _ _ _ hb]
  unfold Lib.byteCells at hv ⊢
  rw [List.getElem?_map, List.getElem?_take] at hv
  split at hv
  · rw [List.getElem?_drop] at hv
    simpa using hv
  · cases hv
set_option maxRecDepth 100000 in
set_option maxHeartbeats 1000000 in
theorem bytes_ok (p b : Nat) (bs : By) (at_ k : Nat) (h : at_ + k ≤ bs.length) (hl : bs.length ≤ 16777216) (w : World) (hM : Mem 60 w p b bs) :
    Calls Try.prog 16 #[.pointer (some ⟨p, 0, none⟩), .int .u64 (at_ : Int), .int .i64 (k : Int)] w (BytesOk bs at_ k w) := by
  obtain ⟨i0, hi, hz0, hz1, hz2⟩ := info_parts info5
  have HN := Lib.hid (part_ok p b bs at_ k h hl w hM)
  unfold PartOk at HN
  have hlt := hM.lt.2
  have hcl := Lib.hid (show (Lib.byteCells ((bs.drop at_).take k)).length = k by rw [Lib.byteCells_length]; simp; omega)
  have hsrc := Lib.hid (src_part (w := w.alloc (.cells (Lib.byteCells (List.replicate k 0)).toArray 5)) (bs := bs) ((Below.heap_alloc _ _ _ hlt).trans hM.2) at_ k)
  have hone := Lib.hid (byte_cells_one ((bs.drop at_).take k))
  have hzl := Lib.hid (show (Lib.byteCells (List.replicate k 0)).length = k by rw [Lib.byteCells_length]; simp)
  have hfin := Lib.hid (show splice (Lib.byteCells (List.replicate k 0)) 0 (Lib.byteCells ((bs.drop at_).take k)) = Lib.byteCells ((bs.drop at_).take k) from splice_whole _ _ (by rw [hcl.out, hzl.out]))
  unfold BytesOk
  generalize Lib.byteCells ((bs.drop at_).take k) = cs at *
  go_enter Try.func16, Try.ntmps16
  go_wp2_with fail
  refine (made_any p b bs _ hM).mono ?_
  rintro e w' ⟨rfl, rfl⟩
  go_wp2_with fail
  refine (HN.out).mono ?_
  rintro e w' ⟨A, hA0, rfl, rfl⟩
  have hA := Lib.hid hA0
  clear hA0
  go_wp2_with (first
    | refine wpList_make_zero _ rfl _ _ 44 rfl 5 i0 Try.underlying44 hi hz0 hz1 hz2 .i64 .i64 _ _ k rfl rfl rfl rfl (by omega) ?_
    | (refine wpList_copy_splice rfl (.tmp 29) (.tmp 30) 44 44 rfl 5 Try.underlying44 (by kernel_rfl) _ _ _ _ _ _ rfl rfl w.heap.size 0 (Lib.byteCells (List.replicate k 0)) 5 (heap_alloc_new w _) cs (by rw [hcl.out]; exact (Nat.min_self k).symm) (fun h0 => ⟨rfl, _, hA.out (by rw [hcl.out] at h0; exact h0), hsrc.out⟩) (by rw [hcl.out, hzl.out]; omega) hone.out w.heap.size w ((Below.refl _ _).alloc (Nat.le_refl _) _) (Nat.le_refl _) ?_; intro w2 HG2 hB2))
  go_ret2
  exact ⟨rfl, by have := HG2.out; rw [hfin.out] at this; exact this, hB2⟩
set_option maxRecDepth 100000 in
/-- What is refused. -/
theorem bytes_no (p b : Nat) (bs : By) (at_ : Int) (k : Nat) (a0 : 0 ≤ at_) (a1 : at_ < 18446744073709551616) (k1 : k ≤ 9223372036854775807) (h : (bs.length : Int) < at_ + k) (hl : bs.length ≤ 16777216) (w : World) (hM : Mem 60 w p b bs) :
    Calls Try.prog 16 #[.pointer (some ⟨p, 0, none⟩), .int .u64 at_, .int .i64 (k : Int)] w fun e w' => e = .returned (.tuple #[.slice none 0 0, .int .i64 50]) ∧ w = w' := by
  have HN := Lib.hid (part_no p b bs at_ k a0 a1 k1 h hl w hM)
  go_enter Try.func16, Try.ntmps16
  go_wp2_with fail
  refine (made_any p b bs _ hM).mono ?_
  rintro e w' ⟨rfl, rfl⟩
  go_wp2_with fail
  refine (HN.out).mono ?_
  rintro e w' ⟨rfl, rfl⟩
  go_wp2_with fail
  go_ret2
  exact ⟨rfl, rfl⟩
theorem setRow_grown (w : World) (g : Nat) (cs : Array Value) : w.grownBy (w.setRow g cs) (some g) :=
  ⟨rfl, rfl, rfl, by simp [World.setRow], fun i _ hi => setRow_other w g i cs (fun e => hi (by rw [e]))⟩
theorem lay_cells (bs xs : By) (a : Nat) : (Lib.byteCells bs).toArray.toList.take a ++ (Lib.byteCells xs ++ (Lib.byteCells bs).toArray.toList.drop (a + (Lib.byteCells xs).length)) = Lib.byteCells (lay bs a xs) := by
  unfold lay Lib.byteCells
  simp
theorem mem_row {T : TypeId} {w : World} {p b : Nat} {bs ys : By} (h : Mem T w p b bs) (hT : T ≠ 5) (hl : ys.length = bs.length) : Mem T (w.setRow b (Lib.byteCells ys).toArray) p b ys :=
  ⟨by rw [hl]; exact (setRow_other w b p _ (h.ne hT)).trans h.1, setRow_heap w b _ _ 5 _ h.2⟩
/-- A slice of bytes that came in, or is one's own: what it holds. -/
def Src (w : World) (A : Option Addr) (xs : By) : Prop := 0 < xs.length → ∃ ad, A = some ad ∧ ∀ j v, (Lib.byteCells xs)[j]? = some v → w.cell? (ad.add j) = some v
end Go.Proofs.Ytojogolmcclpoaa

/-
  Proved here: what headOf and word of the code answer: the row of the reference, and the word with that head. Conditions: the table of codes holds what its text lays; the form is one.
-/
import Derived.Test.YtnooabgdcfegeaaDoorSaf
import Derived.Deep.RegionHeld3
namespace Go.Proofs.YtnooabgdcfegeaaDoor
open Go.RowKit
set_option linter.unusedVariables false
def codeTab : List Int := [
  0, 1273856, 1142784, 2551808, 3567616, 4599808, 4600064, 4600832, 4601088, 4601344, 4601600,
  3158016, 3158272, 3158528, 3158784, 3159040, 3159296, 3159552, 5386240, 5386496, 5386752, 5387008,
  3223552, 3224064, 3224320, 3224576, 3225088, 3225344, 6369536, 6370560, 6370592, 8597504, 8597536,
  8597760, 8598016, 8598272, 8598528, 8598784, 8598816, 8599040, 8599296, 3256320, 7450880, 7451904,
  7451936, 8630272, 8630304, 8630528, 8631552, 8631584, 9498624, 10956800, 10956801, 8597505, 8597761,
  8598017, 8598273, 8598529, 8598785, 8599041, 8599297, 8630273, 8631297, 8631553, 8631809, 8632065,
  11727362, 12775939, 12775937, 12775936, 12775940, 12775948, 12775944, 12775952, 12775956, 12775960, 12775964,
  11727618, 12776195, 12776193, 12776192, 12776196, 12776204, 12776200, 12776208, 12776212, 12776216, 12776220]
def codeAt (i : Nat) : Int := codeTab.getD i 0
/-- The table of codes lies as its text lays it. -/
def Cod (w : World) : Prop := 0 < w.heap.size ∧ ∀ i, i < 88 → w.cell? ⟨0, i, none⟩ = some (.int .u32 (codeAt i))
theorem Cod.of_nw {a b : World} (h : Cod a) (k : Nw a b) : Cod b :=
  ⟨Nat.lt_of_lt_of_le h.1 k.size, fun i hi => (k.cells 0 i h.1).trans (h.2 i hi)⟩
theorem codes_ok : ∀ i : Nat, i < 88 → bits .andNot .u32 (codeAt i) 1048575 = 1048576 * (refRow (i : Int)).1 ∧ IntKind.u64.wrap (bits .and .u32 (codeAt i / 4096) 255) = (refRow (i : Int)).2.1
    ∧ IntKind.u64.wrap (bits .and .u32 (codeAt i / 256) 15) = (refRow (i : Int)).2.2.1 ∧ IntKind.u64.wrap (bits .and .u32 (codeAt i) 255) = (refRow (i : Int)).2.2.2 ∧ 0 ≤ codeAt i ∧ codeAt i < 4294967296 := by decide +kernel
theorem rows_ok : ∀ i : Nat, i < 88 → 0 ≤ (refRow (i : Int)).1 ∧ (refRow (i : Int)).1 ≤ 12 ∧ 0 ≤ (refRow (i : Int)).2.1 ∧ (refRow (i : Int)).2.1 ≤ 127 ∧ 0 ≤ (refRow (i : Int)).2.2.1 ∧ (refRow (i : Int)).2.2.1 ≤ 7 ∧ 0 ≤ (refRow (i : Int)).2.2.2 ∧ (refRow (i : Int)).2.2.2 ≤ 127 := by decide +kernel
theorem row_ok (op : Int) : 0 ≤ (refRow op).1 ∧ (refRow op).1 ≤ 12 ∧ 0 ≤ (refRow op).2.1 ∧ (refRow op).2.1 ≤ 127 ∧ 0 ≤ (refRow op).2.2.1 ∧ (refRow op).2.2.1 ≤ 7 ∧ 0 ≤ (refRow op).2.2.2 ∧ (refRow op).2.2.2 ≤ 127 := by
  by_cases h : op < 1 ∨ 87 < op
  · rw [ref_no op h]; decide
  · have := rows_ok op.toNat (by omega)
    rw [show ((op.toNat : Nat) : Int) = op by omega] at this
    exact this
theorem head_any (op : Int) (w : World) (hC : Cod w) :
    Calls Tryd.prog 64 #[.int .i64 op] w fun e w' => e = .returned (.agg #[.int .u32 (1048576 * (refRow op).1), .int .u64 (refRow op).2.1, .int .u64 (refRow op).2.2.1, .int .u64 (refRow op).2.2.2]) ∧ Nw w w' := by
  by_cases h : op < 0 ∨ 88 ≤ op
  · have E := Lib.hid (ref_no op (by omega))
    by_cases c : op < 0
    · clear h
      go_enter Tryd.func64, Tryd.ntmps64
      go_wp2
      exact bodyPost_ret (v := .agg #[.int .u32 0, .int .u64 0, .int .u64 0, .int .u64 0]) (by simp [results, Tryd.results64, go_sem]) rfl ⟨by rw [E.out]; rfl, by repeat (first | exact Nw.refl _ | apply Nw.alloc)⟩
    · have c' : 88 ≤ op := by omega
      clear h
      go_enter Tryd.func64, Tryd.ntmps64
      go_wp2
      exact bodyPost_ret (v := .agg #[.int .u32 0, .int .u64 0, .int .u64 0, .int .u64 0]) (by simp [results, Tryd.results64, go_sem]) rfl ⟨by rw [E.out]; rfl, by repeat (first | exact Nw.refl _ | apply Nw.alloc)⟩
  · have f0 : 0 ≤ op := by omega
    have f1 : op < 88 := by omega
    clear h
    obtain ⟨b1, b2, b3, b4, c0, c1⟩ := codes_ok op.toNat (by omega)
    rw [show ((op.toNat : Nat) : Int) = op by omega] at b1 b2 b3 b4
    have hs := hC.1
    have hc := hC.2 op.toNat (by omega)
    have E : Hid (_ ∧ _ ∧ _ ∧ _) := Lib.hid (And.intro b1 (And.intro b2 (And.intro b3 b4)))
    clear b1 b2 b3 b4 hC
    generalize codeAt op.toNat = c at *
    go_enter Tryd.func64, Tryd.ntmps64
    go_wp2
    obtain ⟨b1, b2, b3, b4⟩ := E.out
    rw [b1, b2, b3, b4]
    exact bodyPost_ret (v := .agg #[.int .u32 (1048576 * (refRow op).1), .int .u64 (refRow op).2.1, .int .u64 (refRow op).2.2.1, .int .u64 (refRow op).2.2.2]) (by simp [results, Tryd.results64, go_sem]) rfl ⟨rfl, by repeat (first | exact Nw.refl _ | apply Nw.alloc)⟩
/-- A block that was there is there still. -/
theorem blk_keep {wc w' : World} {n : Nat} {o : Obj} (hn : Nw wc w') (h : wc.heap[n]? = some o) : w'.heap[n]? = some o := by
  have hl : n < wc.heap.size := lt_of_block h
  exact (hn.1.block n hl).trans h
theorem cells7 {w : World} {n : Nat} {t : TypeId} {v0 v1 v2 v3 v4 v5 v6 : Value} (h : w.heap[n]? = some (.cells #[v0, v1, v2, v3, v4, v5, v6] t (0, 0))) :
    n < w.heap.size ∧ w.cell? ⟨n, 0, .none⟩ = some v0 ∧ w.cell? ⟨n, 1, .none⟩ = some v1 ∧ w.cell? ⟨n, 2, .none⟩ = some v2 ∧ w.cell? ⟨n, 3, .none⟩ = some v3 ∧ w.cell? ⟨n, 4, .none⟩ = some v4 ∧ w.cell? ⟨n, 5, .none⟩ = some v5 ∧ w.cell? ⟨n, 6, .none⟩ = some v6 :=
  ⟨lt_of_block h, cell_of_row _ _ 0 _ _ _ h, cell_of_row _ _ 1 _ _ _ h, cell_of_row _ _ 2 _ _ _ h, cell_of_row _ _ 3 _ _ _ h, cell_of_row _ _ 4 _ _ _ h, cell_of_row _ _ 5 _ _ _ h, cell_of_row _ _ 6 _ _ _ h⟩
theorem Nw.setRow {a b : World} (h : Nw a b) {g : Nat} (hg : a.heap.size ≤ g) (cs : Array Value) {old : Array Value} {t : TypeId} {fr : Nat × Nat} (ho : b.heap[g]? = some (.cells old t fr)) : Nw a (b.setRow g cs) := by
  obtain ⟨hb, ⟨h1, h2, h3⟩, hf, hs⟩ := h
  refine ⟨⟨hb.os, hb.tape, hb.output, by rw [size_setRow]; exact hb.size, fun k hk => (setRow_other b g k cs (by omega)).trans (hb.block k hk)⟩, ⟨h1, h2, fun i hi => ?_⟩, fun x => ?_, by rw [size_setRow]; exact hs⟩
  · rw [setRow_other b g i cs (by omega)]; exact h3 i hi
  · rw [← hf x]
    by_cases e : x.block = g
    · have h4 := setRow_heap b g old cs t fr ho
      simp [World.frozen?, e, ho, h4]
    · have : (b.setRow g cs).heap[x.block]? = b.heap[x.block]? := setRow_other b g x.block cs e
      simp [World.frozen?, this]
/-! What is held of a block of so many cells stays so while the world grows. -/
theorem keep4 {w wc w' : World} {n : Nat} {v0 v1 v2 v3 : Value} (hn : Nw wc w') (h : Nw w wc ∧ n < wc.heap.size ∧ wc.cell? ⟨n, 0, .none⟩ = some v0 ∧ wc.cell? ⟨n, 1, .none⟩ = some v1 ∧ wc.cell? ⟨n, 2, .none⟩ = some v2 ∧ wc.cell? ⟨n, 3, .none⟩ = some v3) :
    Nw w w' ∧ n < w'.heap.size ∧ w'.cell? ⟨n, 0, .none⟩ = some v0 ∧ w'.cell? ⟨n, 1, .none⟩ = some v1 ∧ w'.cell? ⟨n, 2, .none⟩ = some v2 ∧ w'.cell? ⟨n, 3, .none⟩ = some v3 := by
  obtain ⟨h0, h1, c0, c1, c2, c3⟩ := h
  have k := fun o => hn.cells n o h1
  exact ⟨h0.trans hn, Nat.lt_of_lt_of_le h1 hn.size, (k 0).trans c0, (k 1).trans c1, (k 2).trans c2, (k 3).trans c3⟩
theorem made4 (w : World) (v0 v1 v2 v3 : Value) (t : TypeId) {W : World} {n : Nat} (hW : w.alloc (.cells #[v0, v1, v2, v3] t) = W) (hn : w.heap.size = n) :
    Nw w W ∧ n < W.heap.size ∧ W.cell? ⟨n, 0, .none⟩ = some v0 ∧ W.cell? ⟨n, 1, .none⟩ = some v1 ∧ W.cell? ⟨n, 2, .none⟩ = some v2 ∧ W.cell? ⟨n, 3, .none⟩ = some v3 := by
  subst hW hn
  exact ⟨(Nw.refl _).alloc _ _, by simp, World.cell?_alloc_at _ _ _ 0 rfl, World.cell?_alloc_at _ _ _ 1 rfl, World.cell?_alloc_at _ _ _ 2 rfl, World.cell?_alloc_at _ _ _ 3 rfl⟩
theorem keep7 {w wc w' : World} {n : Nat} {v0 v1 v2 v3 v4 v5 v6 : Value} (hn : Nw wc w') (h : Nw w wc ∧ n < wc.heap.size ∧ wc.cell? ⟨n, 0, .none⟩ = some v0 ∧ wc.cell? ⟨n, 1, .none⟩ = some v1 ∧ wc.cell? ⟨n, 2, .none⟩ = some v2 ∧ wc.cell? ⟨n, 3, .none⟩ = some v3 ∧ wc.cell? ⟨n, 4, .none⟩ = some v4 ∧ wc.cell? ⟨n, 5, .none⟩ = some v5 ∧ wc.cell? ⟨n, 6, .none⟩ = some v6) :
    Nw w w' ∧ n < w'.heap.size ∧ w'.cell? ⟨n, 0, .none⟩ = some v0 ∧ w'.cell? ⟨n, 1, .none⟩ = some v1 ∧ w'.cell? ⟨n, 2, .none⟩ = some v2 ∧ w'.cell? ⟨n, 3, .none⟩ = some v3 ∧ w'.cell? ⟨n, 4, .none⟩ = some v4 ∧ w'.cell? ⟨n, 5, .none⟩ = some v5 ∧ w'.cell? ⟨n, 6, .none⟩ = some v6 := by
  obtain ⟨h0, h1, c0, c1, c2, c3, c4, c5, c6⟩ := h
  have k := fun o => hn.cells n o h1
  exact ⟨h0.trans hn, Nat.lt_of_lt_of_le h1 hn.size, (k 0).trans c0, (k 1).trans c1, (k 2).trans c2, (k 3).trans c3, (k 4).trans c4, (k 5).trans c5, (k 6).trans c6⟩
theorem made7 (w : World) (v0 v1 v2 v3 v4 v5 v6 : Value) (t : TypeId) {W : World} {n : Nat} (hW : w.alloc (.cells #[v0, v1, v2, v3, v4, v5, v6] t) = W) (hn : w.heap.size = n) :
    Nw w W ∧ n < W.heap.size ∧ W.cell? ⟨n, 0, .none⟩ = some v0 ∧ W.cell? ⟨n, 1, .none⟩ = some v1 ∧ W.cell? ⟨n, 2, .none⟩ = some v2 ∧ W.cell? ⟨n, 3, .none⟩ = some v3 ∧ W.cell? ⟨n, 4, .none⟩ = some v4 ∧ W.cell? ⟨n, 5, .none⟩ = some v5 ∧ W.cell? ⟨n, 6, .none⟩ = some v6 := by
  subst hW hn
  exact ⟨(Nw.refl _).alloc _ _, by simp, World.cell?_alloc_at _ _ _ 0 rfl, World.cell?_alloc_at _ _ _ 1 rfl, World.cell?_alloc_at _ _ _ 2 rfl, World.cell?_alloc_at _ _ _ 3 rfl, World.cell?_alloc_at _ _ _ 4 rfl, World.cell?_alloc_at _ _ _ 5 rfl, World.cell?_alloc_at _ _ _ 6 rfl⟩
/-- The word of a head, 0 in all else. -/
def Wd (f o a b : Int) : Int := Put (f7T f) (Put (f3T f) (Plc 0 0 7 o) a) b
theorem wd_any (f o a b : Int) (f0 : 0 ≤ f) (f1 : f ≤ 12) (o0 : 0 ≤ o) (o1 : o < 18446744073709551616) (a0 : 0 ≤ a) (a1 : a < 18446744073709551616) (b0 : 0 ≤ b) (b1 : b < 18446744073709551616) (w : World) :
    Calls Tryd.prog 65 #[.agg #[.int .u32 (1048576 * f), .int .u64 o, .int .u64 a, .int .u64 b]] w fun e w' => e = .returned (.int .u64 (Wd f o a b)) ∧ Nw w w' := by
  go_enter Tryd.func65, Tryd.ntmps65
  go_wp2_with fail
  obtain ⟨W1, hW⟩ : ∃ W1, w.alloc (.cells #[.int .u32 (1048576 * f), .int .u64 o, .int .u64 a, .int .u64 b] 106) = W1 := ⟨_, rfl⟩
  have hS := made4 w _ _ _ _ 106 hW rfl
  rw [hW]
  clear hW
  refine (place_any _ _ _ _ (by decide) (by decide) o0 o1 _).mono ?_
  rintro e w' ⟨rfl, q, rfl⟩
  obtain ⟨p0, p1⟩ := plc_w 0 0 7 o (by decide) (by decide)
  have hS2 := keep4 ((Nw.refl W1).drewN q) hS
  clear hS
  generalize W1.drewN q = W2 at *
  obtain ⟨n1, n2, c0, c1, c2, c3⟩ := hS2
  go_wp2_with fail
  go_region_held3 (fun w' => Nw w w' ∧ w.heap.size < w'.heap.size ∧ w'.cell? ⟨w.heap.size, 0, .none⟩ = some (.int .u32 (1048576 * f)) ∧ w'.cell? ⟨w.heap.size, 1, .none⟩ = some (.int .u64 o) ∧ w'.cell? ⟨w.heap.size, 2, .none⟩ = some (.int .u64 a) ∧ w'.cell? ⟨w.heap.size, 3, .none⟩ = some (.int .u64 b))
    (first | (exact keep4 (by assumption) (by assumption)) | (exact ⟨n1.drew, n2, c0, c1, c2, c3⟩))
    (first
      | (go_at_call 81; refine (f3_any f f0 f1 _).mono ?_; rintro e w' ⟨rfl, hn⟩)
      | (go_at_call 82; refine (put_any _ _ _ _ _ p0 p1 a0 a1 _).mono ?_; rintro e w' ⟨rfl, hn2⟩))
  rename_i hH
  clear n1 n2 c0 c1 c2 c3 hn hn2
  obtain ⟨n1, n2, c0, c1, c2, c3⟩ := hH
  obtain ⟨r0, r1⟩ := put_w (f3T f) (Plc 0 0 7 o) a p0 p1
  go_wp2_with fail
  go_region_held3 (fun w' => Nw w w' ∧ w.heap.size < w'.heap.size ∧ w'.cell? ⟨w.heap.size, 0, .none⟩ = some (.int .u32 (1048576 * f)) ∧ w'.cell? ⟨w.heap.size, 1, .none⟩ = some (.int .u64 o) ∧ w'.cell? ⟨w.heap.size, 2, .none⟩ = some (.int .u64 a) ∧ w'.cell? ⟨w.heap.size, 3, .none⟩ = some (.int .u64 b))
    (first | (exact keep4 (by assumption) (by assumption)) | (exact ⟨n1.drew, n2, c0, c1, c2, c3⟩))
    (first
      | (go_at_call 83; refine (f7_any f f0 f1 _).mono ?_; rintro e w' ⟨rfl, hn⟩)
      | (go_at_call 82; refine (put_any _ _ _ _ _ r0 r1 b0 b1 _).mono ?_; rintro e w' ⟨rfl, hn2⟩))
  rename_i hH
  clear n1 n2 c0 c1 c2 c3 hn hn2
  have hN := hH.1
  clear hH
  go_wp2_with fail
  go_ret
  exact ⟨rfl, hN⟩
end Go.Proofs.YtnooabgdcfegeaaDoor

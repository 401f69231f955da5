/-
  Proved here: a step changes one register at most, and memory only if its instruction stores, and there alone, by the code of hart. No condition.
-/
import Derived.Test.YtmggichckhoomaaGreatDoorQbt
import Derived.Test.YtmggichckhoomaaGreatDoorKae
import Derived.Test.YtmggichckhoomaaGreatDoorKaa
import Derived.Test.YtmggichckhoomaaGreatDoorKab
import Derived.Test.YtmggichckhoomaaGreatDoorKac
import Derived.Test.YtmggichckhoomaaGreatDoorKad
import Derived.Deep.QuietTactic
import Derived.BigQuiet
import Derived.Deep.RegionHeld3
import Derived.Test.YtmggichckhoomaaGreatDoorCards
import Derived.Test.YtmggichckhoomaaGreatDoorTie
import Derived.SevenTiedAt
namespace Go.Proofs.YtmggichckhoomaaGreatDoor.hartKeeps
open Go.ChangeShapes Go.WideShapes Go.ChangeAt Go.RowKit
set_option linter.unusedVariables false
set_option linter.unusedSimpArgs false
def hK (h : HV) : HV := { h with x := h.x.set 0 0, pc := 0 }
theorem hK_ok (h : HV) (hh : HOk h) : HOk (hK h) := ⟨by show (h.x.set 0 0).length = 32; rw [List.length_set]; exact hh.len, zero_in, fun v hv => by
  rcases List.mem_or_eq_of_mem_set hv with hv | rfl
  · exact hh.x v hv
  · exact zero_in, hh.addr, hh.size⟩
theorem row_k (h : HV) (k : h.x.length = 32) : ((hC h).toArray.setIfInBounds 1 (.int .u64 0)).setIfInBounds 0 (.int .u64 0) = (hC (hK h)).toArray := by
  have hx : 0 < (xV h.x).length := by rw [xV_len]; omega
  unfold hC hK
  apply Array.ext'
  simp [List.set_append, hx, xV_set]
/-- What the laws need of a step at the first instruction. -/
theorem keeps (h : HV) (hh : HOk h) (n : Nat) (is : List In7) (i : In7) (hn : 64 ≤ n) (hi : is[0]? = some i) :
    (∀ r : Nat, (stepS (hK h) (laidB n is)).1.x[r]? ≠ (hK h).x[r]? → (stepS (hK h) (laidB n is)).2.1 = 0 ∧ (if GoodB i.1 i.2.1 i.2.2.1 i.2.2.2.1 i.2.2.2.2.1 i.2.2.2.2.2.1 i.2.2.2.2.2.2 = true then i.2.1 else 0) = (r : Int)) ∧
    (cnt (laidB n is) (stepS (hK h) (laidB n is)).2.2 n = 0 ∨ ((stepS (hK h) (laidB n is)).2.1 = 0 ∧ StoreB i.1 = true ∧ (cnt (laidB n is) (stepS (hK h) (laidB n is)).2.2 n : Int) ≤ SizeI i.1)) := by
  have hl : 1 ≤ is.length := (List.getElem?_eq_some_iff.1 hi).1
  have hg : is.getD 0 z7 = i := by rw [List.getD_eq_getElem?_getD, hi]; rfl
  have hf := fet_first (List.replicate n 0) is (by rw [List.length_replicate]; omega) is.length hl
  rw [hg] at hf
  have hpc : (hK h).pc = 0 := rfl
  have h00 : (hK h).x[0]? = some 0 := List.getElem?_set_self (by rw [hh.len]; omega)
  have key : (fetS (laidB n is) (hK h).pc).2 = 0 → (fetS (laidB n is) (hK h).pc).1 = i ∧ GoodB i.1 i.2.1 i.2.2.1 i.2.2.2.1 i.2.2.2.2.1 i.2.2.2.2.2.1 i.2.2.2.2.2.2 = true := by
    rw [hpc]
    unfold laidB
    rw [hf]
    intro h2
    split at h2
    · rename_i hgd
      split at h2
      · cases h2
      · rename_i ho
        rw [if_pos hgd, if_neg ho]
        exact ⟨rfl, hgd⟩
    · cases h2
  refine ⟨fun r hr => ?_, ?_⟩
  · obtain ⟨e1, e2, e3⟩ := step_regs (hK h) (laidB n is) r h00 hr
    obtain ⟨k1, k2⟩ := key e2
    rw [k1] at e3
    have := (good_regs k2).1.1
    refine ⟨e1, ?_⟩
    rw [if_pos k2]
    omega
  · rcases step_bytes (hK h) (laidB n is) (hK_ok h hh) with hb | ⟨e1, e2, at_, v, e3, e4⟩
    · rw [hb]
      exact .inl (cnt_self _ _)
    · have hf0 : (fetS (laidB n is) (hK h).pc).2 = 0 := by
        by_cases hf0 : (fetS (laidB n is) (hK h).pc).2 = 0
        · exact hf0
        · exfalso
          unfold stepS at e1
          rw [if_neg hf0] at e1
          exact hf0 e1
      obtain ⟨k1, k2⟩ := key hf0
      rw [k1] at e2 e4
      refine .inr ⟨e1, e2, ?_⟩
      rw [e4]
      exact cnt_stB _ _ _ _ e3 (size_range i.1).1 n
theorem drewN_nb (w : World) (n : Nat) : Nb w (w.drewN n) := ⟨rfl, rfl, rfl, Nat.le_refl _, fun _ _ => rfl⟩
theorem cell_byte {w : World} {g : Nat} {bs : By} (h : w.heap[g]? = some (.cells (Lib.byteCells bs).toArray 5 (0, 0))) (k : Nat) (c : UInt8) (hk : bs[k]? = some c) : w.cell? ⟨g, k, none⟩ = some (.int .u8 (c.toNat : Int)) := by
  rw [cell_of_row _ _ k _ _ _ h]
  simp [Lib.byteCells, hk]
theorem keep9 {W a c : World} {p q : Addr} {u v : Value} {B : Nat} {v0 v1 v2 v3 v4 v5 v6 : Value} (hn : Nb a c) (h : Nb W a ∧ a.cell? p = some u ∧ a.cell? q = some v ∧ a.cell? ⟨B, 0, none⟩ = some v0 ∧ a.cell? ⟨B, 1, none⟩ = some v1 ∧ a.cell? ⟨B, 2, none⟩ = some v2 ∧ a.cell? ⟨B, 3, none⟩ = some v3 ∧ a.cell? ⟨B, 4, none⟩ = some v4 ∧ a.cell? ⟨B, 5, none⟩ = some v5 ∧ a.cell? ⟨B, 6, none⟩ = some v6) :
    Nb W c ∧ c.cell? p = some u ∧ c.cell? q = some v ∧ c.cell? ⟨B, 0, none⟩ = some v0 ∧ c.cell? ⟨B, 1, none⟩ = some v1 ∧ c.cell? ⟨B, 2, none⟩ = some v2 ∧ c.cell? ⟨B, 3, none⟩ = some v3 ∧ c.cell? ⟨B, 4, none⟩ = some v4 ∧ c.cell? ⟨B, 5, none⟩ = some v5 ∧ c.cell? ⟨B, 6, none⟩ = some v6 := by
  obtain ⟨h0, e1, e2, c0, c1, c2, c3, c4, c5, c6⟩ := h
  exact ⟨h0.trans hn, hn.cell e1, hn.cell e2, hn.cell c0, hn.cell c1, hn.cell c2, hn.cell c3, hn.cell c4, hn.cell c5, hn.cell c6⟩
theorem first_at {w : World} {b off : Nat} {is : List In7} {i : In7} (h : Ins w b off is) (hi : is[0]? = some i) :
  w.cell? ⟨b, off, none⟩ = some (.int .i64 i.1) ∧ w.cell? ⟨b, off + 1, none⟩ = some (.int .i64 i.2.1) ∧ w.cell? ⟨b, off + 2, none⟩ = some (.int .i64 i.2.2.1) ∧ w.cell? ⟨b, off + 3, none⟩ = some (.int .i64 i.2.2.2.1) ∧ w.cell? ⟨b, off + 4, none⟩ = some (.int .i64 i.2.2.2.2.1) ∧ w.cell? ⟨b, off + 5, none⟩ = some (.bool i.2.2.2.2.2.1) ∧ w.cell? ⟨b, off + 6, none⟩ = some (.bool i.2.2.2.2.2.2) := by
  have := h.at_ 0 i hi
  simpa only [Nat.zero_mul, Nat.add_zero] using this
set_option maxRecDepth 100000 in
set_option maxHeartbeats 8000000 in
theorem walk (h : HV) (size : Int) (A : Option Addr) (b off cap : Nat) (is : List In7) (hh : HOk h) (hs : InR size) (hl : is.length ≤ 9223372036854775807) (hI : ∀ i ∈ is, InR i.2.2.2.2.1) (hAd : 0 < is.length → A = some ⟨b, off, none⟩) (w : World) (hC0 : Cod w) (hC2 : Hid (Ins w b off is)) :
    Calls Tryz.prog 7 #[hA h, .int .i64 size, .slice A is.length cap] w fun e w' => e = .returned (.bool true) ∧ Below w.heap.size w w' := by
  have hlen := Lib.hid (show (hC h).toArray.size = 36 by rw [List.size_toArray]; exact hC_len (by exact hh.len))
  unfold hA
  by_cases h2 : (200 : Int) < (is.length : Int) ∨ is.length = 0
  · have h2' := Lib.hid h2
    clear h2
    rcases h2'.out with h2 | h2
    · clear h2'
      go_enter Tryz.func7, Tryz.ntmps7
      go_upto_region 1 with (fail)
      obtain ⟨W1, w1e⟩ : ∃ W1, w.alloc (Obj.cells (hC h).toArray 25) = W1 := ⟨_, rfl⟩
      have n1 : Nb w W1 := by rw [← w1e]; exact (Nb.refl _).alloc _
      rw [w1e]
      clear w1e
      go_wp2_with fail
      refine (hlives_any _ (hC0.of_nb n1)).mono ?_
      rintro e w2 ⟨rfl, n2⟩
      go_wp2_with fail
      go_ret
      exact ⟨rfl, n1.trans n2⟩
    · clear h2'
      rw [h2]
      go_enter Tryz.func7, Tryz.ntmps7
      go_upto_region 1 with (fail)
      obtain ⟨W1, w1e⟩ : ∃ W1, w.alloc (Obj.cells (hC h).toArray 25) = W1 := ⟨_, rfl⟩
      have n1 : Nb w W1 := by rw [← w1e]; exact (Nb.refl _).alloc _
      rw [w1e]
      clear w1e
      go_wp2_with fail
      refine (hlives_any _ (hC0.of_nb n1)).mono ?_
      rintro e w2 ⟨rfl, n2⟩
      go_wp2_with fail
      go_ret
      exact ⟨rfl, n1.trans n2⟩
  have hl2 : is.length ≤ 200 := by omega
  have hl3 : 1 ≤ is.length := by omega
  have h2a : ¬ (200 : Int) < (is.length : Int) := by omega
  have h2b : ((is.length : Int) == 0) = false := beq_eq_false_iff_ne.2 (by omega)
  clear h2
  obtain rfl := hAd (by omega)
  obtain ⟨i, hi⟩ : ∃ i, is[0]? = some i := ⟨_, List.getElem?_eq_getElem (by omega)⟩
  have him := hI i (List.mem_of_getElem? hi)
  have HF := Lib.hid (fun w1 (hn : Nb w w1) => first_at (hC2.out.nb hn) hi)
  have hi' := Lib.hid hi
  clear hi
  go_enter Tryz.func7, Tryz.ntmps7
  go_upto_region 1 with (fail)
  obtain ⟨W1, w1e⟩ : ∃ W1, w.alloc (Obj.cells (hC h).toArray 25) = W1 := ⟨_, rfl⟩
  have n1 : Nb w W1 := by rw [← w1e]; exact (Nb.refl _).alloc _
  have kH : W1.heap[w.heap.size]? = some (.cells (hC h).toArray 25 (0, 0)) := by rw [← w1e]; exact new_blk _ _ rfl
  rw [w1e]
  clear w1e
  have HL := Lib.hid (laid_any size hs is (by omega) hI (some ⟨b, off, none⟩) b off cap hAd W1 (hC0.of_nb n1) (Lib.hid (hC2.out.nb n1)))
  have hbl := laidB_len (sizeN size) is
  have hsl := sizeN_le size
  obtain ⟨q1, q2⟩ := keeps h hh (sizeN size) is i hsl.1 hi'.out
  have hQ1 := Lib.hid q1
  have hQ2 := Lib.hid q2
  unfold LaidAns at HL
  generalize laidB (sizeN size) is = bs at *
  generalize sizeN size = n at *
  have hsl' := Lib.hid hsl
  have hbl' := Lib.hid hbl
  clear hI hAd hC2 q1 q2 hi' hsl hbl
  go_wp2_with fail
  refine (HL.out).mono ?_
  rintro e w2 ⟨rfl, hM, -, n2⟩
  have nn := n1.trans n2
  have kH2 := n2.block kH
  have hz := lt_blk kH
  have hlm := hM.lt
  have LM := len_any (W1.heap.size + 1) W1.heap.size bs w2 hM
  rw [hbl'.out] at LM
  replace LM := Lib.hid LM
  have BM := Lib.hid (bytes_ok (W1.heap.size + 1) W1.heap.size bs 0 n (by rw [hbl'.out]; omega) (by rw [hbl'.out]; have := hsl'.out; omega) w2 hM)
  unfold BytesOk at BM
  rw [show (bs.drop 0).take n = bs from by rw [List.drop_zero, ← hbl'.out]; exact List.take_length] at BM
  clear HL kH n1 n2
  go_wp2_with fail
  refine (LM.out).mono ?_
  rintro e w' ⟨rfl, rfl⟩
  go_wp2_with fail
  refine (BM.out).mono ?_
  rintro e w3 ⟨rfl, kWas, b3⟩
  have hM3 := hM.nb b3
  have kH3 := Nb.block (b3 : Nb w2 w3) kH2
  have n3 : Nb w w3 := nn.trans b3
  have hz3 := Nb.size (b3 : Nb w2 w3)
  clear LM BM hM kH2 b3
  obtain ⟨c0, -⟩ := cell36 kH3 (by exact hh.len)
  obtain ⟨y1, c1⟩ : ∃ y, w3.cell? ⟨w.heap.size, 1, none⟩ = some y := by
    have hx0 : h.x[0]? = some (h.x[0]'(by rw [hh.len]; omega)) := List.getElem?_eq_getElem _
    exact ⟨_, cellX kH3 0 _ hx0⟩
  have f0 := frozen_blk kH3 0
  have f1 := frozen_blk kH3 1
  go_upto_region 7 with (fail)
  obtain ⟨W4, w4e⟩ : ∃ W4, (w3.setCell ⟨w.heap.size, 1, none⟩ (.int .u64 0)).setCell ⟨w.heap.size, 0, none⟩ (.int .u64 0) = W4 := ⟨_, rfl⟩
  have kH4 : W4.heap[w.heap.size]? = some (.cells (hC (hK h)).toArray 25 (0, 0)) := by rw [← w4e, set_blk (set_blk kH3 1 _) 0 _, row_k h hh.len]
  have oth4 : ∀ k, k ≠ w.heap.size → W4.heap[k]? = w3.heap[k]? := fun k hk => by rw [← w4e, Below.heap_setCell _ _ _ _ hk, Below.heap_setCell _ _ _ _ hk]
  have n4 : Nb w W4 := by rw [← w4e]; exact (Below.setCell n3 (p := ⟨w.heap.size, 1, none⟩) (Nat.le_refl _) _).setCell (p := ⟨w.heap.size, 0, none⟩) (Nat.le_refl _) _
  have hs4 : W4.heap.size = w3.heap.size := by rw [← w4e]; simp [World.setCell]
  rw [w4e]
  clear w4e c0 c1 f0 f1
  have hM4 : Mem 92 W4 (W1.heap.size + 1) W1.heap.size bs := ⟨(oth4 _ (by omega)).trans hM3.1, (oth4 _ (by omega)).trans hM3.2⟩
  have kWas4 := (oth4 _ (by omega)).trans kWas
  have hokk := hK_ok h hh
  have HS := Lib.hid (step_any (hK h) (W1.heap.size + 1) W1.heap.size bs hokk (by rw [hbl'.out]; have := hsl'.out; omega) W4 (hC0.of_nb n4) hM4)
  have hok2 := Lib.hid (step_ok (hK h) bs hokk)
  have hbl2 := Lib.hid ((step_len (hK h) bs hokk).trans hbl'.out)
  unfold StpAns at HS
  generalize (stepS (hK h) bs).1 = x at *
  generalize (stepS (hK h) bs).2.1 = E at *
  generalize (stepS (hK h) bs).2.2 = bs2 at *
  generalize hK h = k at *
  have hlenk := Lib.hid (show (hC k).toArray.size = 36 by rw [List.size_toArray]; exact hC_len (by exact hokk.len))
  have hlen2 := Lib.hid (show (hC x).toArray.size = 36 by rw [List.size_toArray]; exact hC_len (by exact hok2.out.len))
  have hone2 := Lib.hid (one_all (hC_one x))
  clear hM3 kH3 n3 oth4 kWas nn
  go_wp2_with (first | refine wpList_load_row rfl 25 (.tmp 3) rfl w.heap.size rfl 25 (hC k).toArray (0, 0) _ kH4 Tryz.underlying25 rfl (by rw [size36, hlenk.out]) ?_)
  refine (HS.out).mono ?_
  rintro e w5 ⟨rfl, hM5, g5⟩
  have kH5 := (g5.block _ (lt_blk kH4) (by intro e; injection e with e; omega)).trans kH4
  have kWas5 := (g5.block _ (lt_blk kWas4) (by intro e; injection e with e; omega)).trans kWas4
  have n5 : Nb w w5 := below_grown n4 g5 n4.size (by omega)
  have hz5 := g5.size
  clear HS kH4 hM4 n4 kWas4 g5
  go_upto_region 8 with (first
    | refine wpList_store_row rfl 25 (.tmp 11) (.tmp 48) rfl w5.heap.size (hC x).toArray rfl rfl 25 zerosH (heap_alloc_new w5 _) (by rw [size36, hlen2.out]) (by rw [hlen2.out]; rfl) hone2.out ?_)
  obtain ⟨W6, w6e⟩ : ∃ W6, (w5.alloc (Obj.cells zerosH 25)).setRow w5.heap.size (hC x).toArray = W6 := ⟨_, rfl⟩
  have m6 : Nb w5 W6 := by rw [← w6e]; exact ((Nb.refl _).alloc _).setRow (Nat.le_refl _) _
  have kX : W6.heap[w5.heap.size]? = some (.cells (hC x).toArray 25 (0, 0)) := by rw [← w6e]; exact setRow_heap _ _ _ _ _ _ (heap_alloc_new w5 _)
  change Code.wp _ _ _ _ ((w5.alloc (Obj.cells zerosH 25)).setRow w5.heap.size (hC x).toArray)
  rw [w6e]
  clear w6e
  have kH6 := m6.block kH5
  have kWas6 := m6.block kWas5
  have hM6 := hM5.nb m6
  have n6 := n5.trans m6
  clear kH5 kWas5 hM5 n5 m6
  have LM := len_any (W1.heap.size + 1) W1.heap.size bs2 W6 hM6
  rw [hbl2.out] at LM
  replace LM := Lib.hid LM
  have BM := Lib.hid (bytes_ok (W1.heap.size + 1) W1.heap.size bs2 0 n (by rw [hbl2.out]; omega) (by rw [hbl2.out]; have := hsl'.out; omega) W6 hM6)
  unfold BytesOk at BM
  rw [show (bs2.drop 0).take n = bs2 from by rw [List.drop_zero, ← hbl2.out]; exact List.take_length] at BM
  go_wp2_with fail
  refine (LM.out).mono ?_
  rintro e w' ⟨rfl, rfl⟩
  go_wp2_with fail
  refine (BM.out).mono ?_
  rintro e w7 ⟨rfl, kNow, b7⟩
  have b7' : Nb W6 w7 := b7
  have kH7 := b7'.block kH6
  have kX7 := b7'.block kX
  have kWas7 := b7'.block kWas6
  have n7 := n6.trans b7'
  have hz6 := lt_blk kX
  have hz7 := b7'.size
  clear LM BM hM6 kH6 kX kWas6 b7 b7' n6
  obtain ⟨d0, d1, d2, d3, d4, d5, d6⟩ := HF.out w7 n7
  go_upto_region 10 with (fail)
  obtain ⟨W8, w8e⟩ : ∃ W8, w7.alloc (Obj.cells #[.int .i64 i.1, .int .i64 i.2.1, .int .i64 i.2.2.1, .int .i64 i.2.2.2.1, .int .i64 i.2.2.2.2.1, .bool i.2.2.2.2.2.1, .bool i.2.2.2.2.2.2] 56) = W8 := ⟨_, rfl⟩
  have m8 : Nb w7 W8 := by rw [← w8e]; exact (Nb.refl _).alloc _
  have kI8 : W8.heap[w7.heap.size]? = some (.cells #[.int .i64 i.1, .int .i64 i.2.1, .int .i64 i.2.2.1, .int .i64 i.2.2.2.1, .int .i64 i.2.2.2.2.1, .bool i.2.2.2.2.2.1, .bool i.2.2.2.2.2.2] 56 (0, 0)) := by rw [← w8e]; exact new_blk _ _ rfl
  rw [w8e]
  clear w8e d0 d1 d2 d3 d4 d5 d6 HF
  have kH8 := Lib.hid (m8.block kH7)
  have kX8 := Lib.hid (m8.block kX7)
  have kWas8 := Lib.hid (m8.block kWas7)
  have kNow8 := Lib.hid (m8.block kNow)
  have kI8' := Lib.hid kI8
  have n8 := n7.trans m8
  clear kH7 kX7 kWas7 kNow kI8 n7 m8
  have hlk := Lib.hid hokk.len
  have hlx := Lib.hid hok2.out.len
  have hIS := Lib.hid him
  clear hokk him
  go_wp2_with fail
  go_loopw [60] (fun c wr => ∃ r : Nat, r ≤ 32 ∧ c = .int .i64 r ∧ Nb W8 wr) (fun c _ => 32 - (intOf c).toNat)
  case atStart => exact ⟨0, by omega, rfl, Nb.refl _⟩
  case round =>
    obtain ⟨r, hr, rfl, hN⟩ := hrel
    by_cases hlt : r < 32
    · obtain ⟨X, hX⟩ : ∃ X, x.x[r]? = some X := ⟨_, List.getElem?_eq_getElem (by rw [hlx.out]; exact hlt)⟩
      obtain ⟨Y, hY⟩ : ∃ Y, k.x[r]? = some Y := ⟨_, List.getElem?_eq_getElem (by rw [hlk.out]; exact hlt)⟩
      have cX := cellX (hN.block kX8.out) r X hX
      have cY := cellX (hN.block kH8.out) r Y hY
      have hlt2 : (r : Int) < 32 := by omega
      by_cases hxy : X = Y
      · subst hxy
        clear hX hY hr
        go_wp2_with fail
        go_quiet (fail)
        go_wp2_with fail
        exact ⟨⟨r + 1, hlt, rfl, hN.trans (drewN_nb _ _)⟩, by simp [intOf] <;> omega⟩
      · have hne : (X != Y) = true := bne_iff_ne.2 hxy
        obtain ⟨hE0, hset⟩ := hQ1.out r (by rw [hX, hY]; intro e; injection e with e; exact hxy e)
        obtain ⟨-, c0, c1, c2, c3, c4, c5, c6⟩ := cells7 (hN.block kI8'.out)
        subst hE0
        have hSt : ∀ w1, (Nb wr w1 ∧ w1.cell? ⟨w5.heap.size, 1 + r, none⟩ = some (.int .u64 X) ∧ w1.cell? ⟨w.heap.size, 1 + r, none⟩ = some (.int .u64 Y) ∧ w1.cell? ⟨w7.heap.size, 0, none⟩ = some (.int .i64 i.1) ∧ w1.cell? ⟨w7.heap.size, 1, none⟩ = some (.int .i64 i.2.1) ∧ w1.cell? ⟨w7.heap.size, 2, none⟩ = some (.int .i64 i.2.2.1) ∧ w1.cell? ⟨w7.heap.size, 3, none⟩ = some (.int .i64 i.2.2.2.1) ∧ w1.cell? ⟨w7.heap.size, 4, none⟩ = some (.int .i64 i.2.2.2.2.1) ∧ w1.cell? ⟨w7.heap.size, 5, none⟩ = some (.bool i.2.2.2.2.2.1) ∧ w1.cell? ⟨w7.heap.size, 6, none⟩ = some (.bool i.2.2.2.2.2.2)) → Calls Tryz.prog 21 #[.agg #[.int .i64 i.1, .int .i64 i.2.1, .int .i64 i.2.2.1, .int .i64 i.2.2.2.1, .int .i64 i.2.2.2.2.1, .bool i.2.2.2.2.2.1, .bool i.2.2.2.2.2.2]] w1 fun e w' => e = .returned (.int .i64 (r : Int)) ∧ Nb w1 w' := fun w1 h1 => by
          have := sets_any i.1 i.2.1 i.2.2.1 i.2.2.2.1 i.2.2.2.2.1 i.2.2.2.2.2.1 i.2.2.2.2.2.2 hIS.out.1 hIS.out.2 w1 (hC0.of_nb ((n8.trans hN).trans h1.1))
          rwa [hset] at this
        have HSt := Lib.hid hSt
        clear hX hY hr hset hxy hSt
        go_upto_region 13 with (fail)
        go_region_held3 (fun w' => Nb wr w' ∧ w'.cell? ⟨w5.heap.size, 1 + r, none⟩ = some (.int .u64 X) ∧ w'.cell? ⟨w.heap.size, 1 + r, none⟩ = some (.int .u64 Y) ∧ w'.cell? ⟨w7.heap.size, 0, none⟩ = some (.int .i64 i.1) ∧ w'.cell? ⟨w7.heap.size, 1, none⟩ = some (.int .i64 i.2.1) ∧ w'.cell? ⟨w7.heap.size, 2, none⟩ = some (.int .i64 i.2.2.1) ∧ w'.cell? ⟨w7.heap.size, 3, none⟩ = some (.int .i64 i.2.2.2.1) ∧ w'.cell? ⟨w7.heap.size, 4, none⟩ = some (.int .i64 i.2.2.2.2.1) ∧ w'.cell? ⟨w7.heap.size, 5, none⟩ = some (.bool i.2.2.2.2.2.1) ∧ w'.cell? ⟨w7.heap.size, 6, none⟩ = some (.bool i.2.2.2.2.2.2))
          (first | assumption | (exact keep9 (by assumption) (by assumption)) | (exact ⟨(Nb.refl _).trans ((Nb.refl _).drewN 1), cX, cY, c0, c1, c2, c3, c4, c5, c6⟩))
          (first
            | (go_at_call 21; refine (HSt.out _ (by assumption)).mono ?_; rintro e w1 ⟨rfl, hnA⟩))
        rename_i hH
        have hN2 := hN.trans hH.1
        clear hH cX cY c0 c1 c2 c3 c4 c5 c6 HSt
        go_wp2_with fail
        exact ⟨⟨r + 1, hlt, rfl, hN2⟩, by simp [intOf] <;> omega⟩
    · obtain rfl : r = 32 := by omega
      clear hr hlt
      have n9 := n8.trans hN
      have kW9 := Lib.hid (hN.block kWas8.out)
      have kN9 := Lib.hid (hN.block kNow8.out)
      have kI9 := Lib.hid (hN.block kI8'.out)
      clear kWas8 kNow8 kI8' kX8 kH8 hQ1
      go_wp2_with fail
      go_loopw [17, 85] (fun ch c wr2 => ∃ j : Nat, j ≤ n ∧ c = .int .i64 j ∧ ch = .int .i64 (cnt bs bs2 j : Int) ∧ Nb wr wr2) (fun _ c _ => n - (intOf c).toNat)
      case atStart => exact ⟨0, by omega, rfl, rfl, Nb.refl _⟩
      case round =>
        obtain ⟨j, hj, rfl, rfl, hN2⟩ := hrel
        by_cases hjt : j < n
        · obtain ⟨d1, hd1⟩ : ∃ d, bs[j]? = some d := ⟨_, List.getElem?_eq_getElem (by rw [hbl'.out]; exact hjt)⟩
          obtain ⟨d2, hd2⟩ : ∃ d, bs2[j]? = some d := ⟨_, List.getElem?_eq_getElem (by rw [hbl2.out]; exact hjt)⟩
          have c1 := cell_byte (hN2.block kW9.out) j d1 hd1
          have c2 := cell_byte (hN2.block kN9.out) j d2 hd2
          have hct := cnt_top bs bs2 j
          have hjt2 : (j : Int) < (n : Int) := by omega
          have hn2 := hsl'.out
          have hstep : cnt bs bs2 (j + 1) = cnt bs bs2 j + if bs[j]? = bs2[j]? then 0 else 1 := rfl
          rw [hd1, hd2] at hstep
          by_cases hdd : d1 = d2
          · subst hdd
            rw [if_pos rfl, Nat.add_zero] at hstep
            have hst := Lib.hid hstep
            clear hd1 hd2 hstep hj
            go_wp2_with fail
            go_quiet (fail)
            go_wp2_with fail
            exact ⟨⟨j + 1, hjt, rfl, by rw [hst.out]; rfl, hN2.trans (drewN_nb _ _)⟩, by simp [intOf] <;> omega⟩
          · have hne : ((d1.toNat : Int) != (d2.toNat : Int)) = true := bne_iff_ne.2 (fun e => hdd (UInt8.toNat_inj.1 (by omega)))
            rw [if_neg (fun e => hdd (Option.some.inj e))] at hstep
            have hst := Lib.hid hstep
            clear hd1 hd2 hstep hj
            go_wp2_with fail
            go_quiet (fail)
            go_wp2_with fail
            exact ⟨⟨j + 1, hjt, rfl, by rw [hst.out]; rfl, hN2.trans (drewN_nb _ _)⟩, by simp [intOf] <;> omega⟩
        · obtain rfl : j = n := by omega
          obtain ⟨-, c0, -⟩ := cells7 (hN2.block kI9.out)
          have nA := n9.trans hN2
          have codA := hC0.of_nb nA
          have hct := cnt_top bs bs2 j
          have hn2 := hsl'.out
          have hq := hQ2.out
          generalize cnt bs bs2 j = C at *
          clear hj hjt hQ2 kW9 kN9 kI9
          by_cases hC0' : C = 0
          · subst hC0'
            clear hq
            go_wp2_with fail
            refine (hlives_any _ codA).mono ?_
            rintro e wz ⟨rfl, nz⟩
            go_wp2_with fail
            go_ret
            exact ⟨rfl, nA.trans nz⟩
          · obtain ⟨rfl, hS, hle⟩ := hq.resolve_left hC0'
            have hCb : ((C : Int) == 0) = false := beq_eq_false_iff_ne.2 (by omega)
            have HSr := stores_any i.1
            rw [hS] at HSr
            replace HSr := Lib.hid HSr
            have HSz := Lib.hid (size_any i.1)
            have hle' := Lib.hid hle
            clear hC0' hS
            go_wp2_with fail
            refine (HSr.out _).mono ?_
            rintro e w' ⟨rfl, rfl⟩
            go_wp2_with fail
            refine (HSz.out _).mono ?_
            rintro e w' ⟨rfl, rfl⟩
            go_wp2_with fail
            refine (hlives_any _ codA).mono ?_
            rintro e wz ⟨rfl, nz⟩
            go_wp2_with fail
            go_ret
            exact ⟨rfl, nA.trans nz⟩
/-! The row's step. -/
set_option maxRecDepth 100000 in
set_option maxHeartbeats 1000000 in
theorem lifted (os : Os) (started : os.Started) (H : Type) (enc : TypeId × Value → H) :
    ReturnsInHanded {} Tryz.checked os 7 .any (fun w args => (Rows.hartKeepsSpec.pre enc Tryz.prog Tryz.f7 [] false w args ∧ laidMetH Tryz.prog laidL w) ∧ sizedMet enc Tryz.prog Tryz.f7 (OpenSpec.ofChange Rows.hartKeepsSpec) false w args)
      (Rows.hartKeepsSpec.post enc Tryz.prog Tryz.f7 false true false false) := by
  refine returnsInHanded_of_change_and (C := Tryz.checked) (X := fun w _ => laidMetH Tryz.prog laidL w) (fun _ _ _ hh h => h.of_heap hh) own started (by kernel_rfl) Tryz.func7
    (ChangeSpec.witness_shaped (enc := enc) (C := Tryz.checked) (os := os) (X := fun w _ => laidMetH Tryz.prog laidL w) false (World.doorLaid Tryz.prog 400 os) #[.agg #[.int .u64 0, .int .u64 0, .int .u64 0, .int .u64 0, .int .u64 0, .int .u64 0, .int .u64 0, .int .u64 0, .int .u64 0, .int .u64 0, .int .u64 0, .int .u64 0, .int .u64 0, .int .u64 0, .int .u64 0, .int .u64 0, .int .u64 0, .int .u64 0, .int .u64 0, .int .u64 0, .int .u64 0, .int .u64 0, .int .u64 0, .int .u64 0, .int .u64 0, .int .u64 0, .int .u64 0, .int .u64 0, .int .u64 0, .int .u64 0, .int .u64 0, .int .u64 0, .int .u64 0, .bool false, .int .u64 0, .int .i64 0], .int .i64 0, .slice none 0 0] 8 rfl (World.shaped_of_RefB (by kernel_rfl) (by kernel_rfl)) (by kernel_rfl) (by kernel_rfl) (by kernel_rfl) (door_met os _)) ?_
  intro W base args ds gs before hval0 hW _ _ hL _
  have hval : ∀ (j : Nat) t v, Tryz.f7.params[j]? = some t → args[j]? = some v → Value.okWide Tryz.prog W .any base t v := hval0
  have hW' := hW
  obtain ⟨p, q, hA0, hV, rfl, hfz, hnd⟩ := hW
  have hA1 : DataW.TrodAll enc Tryz.prog W 0 (fun _ => true) true Tryz.f7.params.toList args.toList ds p := hA0
  have hA := hA1
  rw [Tryz.params7] at hA hval
  obtain ⟨v0, vs0, d0, ds0, p0, q0, hargs0, rfl, -, h0, r0⟩ := trodAll_cons hA
  obtain ⟨v1, vs1, d1, ds1, p1, q1, hargs1, rfl, -, h1, r1⟩ := trodAll_cons r0
  obtain ⟨v2, vs2, d2, ds2, p2, q2, hargs2, rfl, -, h2, r2⟩ := trodAll_cons r1
  obtain ⟨rfl, rfl, -⟩ := trodAll_nil r2
  obtain rfl : args = #[v0, v1, v2] := by cases args; simp_all
  obtain ⟨rfl, rfl⟩ := trodVars_none hV
  obtain ⟨hh0, rfl, hr0⟩ := open_hart (hval 0 25 v0 rfl rfl) h0
  obtain ⟨n1, rfl, -, -, w1⟩ := open_int Tryz.underlying3 (hval 1 3 v1 rfl rfl) h1
  obtain ⟨A2, b2, off2, cap2, is2, rfl, hAd2, hI2, hR2, hl2⟩ := open_insts (hval 2 26 v2 rfl rfl) h2
  clear hval0
  simp only [List.append_nil] at hW'
  refine (walk hh0 n1 A2 b2 off2 cap2 is2 hr0 (i64_of w1) hl2 hR2 hAd2 W (cod_of_laid hL) (Lib.hid hI2)).mono fun e W' ⟨he, hg⟩ => ?_
  subst he
  exact ⟨_, rfl, post_of_nb (pa := p) (pv := []) hW' (fun _ _ _ => (trodAll_cons_mk (shut_bool Tryz.underlying4 _) trodAll_mk0))
    (fun sp hsp => args_stay (by kernel_rfl) hg hA1 (fun t ht => by
      have h0 : (Tryz.f7.params.toList.all fun t => Tryz.prog.readableRec t && decide (t < Tryz.prog.types.size)) = true := by kernel_rfl
      have h1 := List.all_eq_true.1 h0 t ht
      rw [Bool.and_eq_true, decide_eq_true_eq] at h1
      exact h1) (fun x hx => hW'.lt x hx) hsp)
    (fun _ _ => rfl) (by simp) hg (ok_one (by kernel_rfl) rfl (okWide_bool_mk Tryz.underlying4 _))⟩
theorem over : Rows.HartKeepsSaid :=
  OpenClaim.holds_of_wide 7 Tryz.f7 rfl rfl rfl rfl rfl rfl rfl ⟨rfl, rfl, rfl, rfl, rfl⟩ rfl rfl rfl rfl rfl (by kernel_rfl) Tryz.func7 (by kernel_rfl)
    (of_decide_eq_true (by kernel_rfl)) (by unfold Func.isWrapper; first | (rw [if_pos (by decide +kernel)]; kernel_rfl) | (rw [if_neg (by decide +kernel)]; exact ⟨rfl, rfl⟩))
    (fun os started H enc _ => lifted os started H enc)
/-- The statement: the tied card. -/
theorem proved : Rows.HartKeepsCardSaid :=
  Claim7.holds_tied_plain_at .later [] [.data] true (true, "96ff5ee96118ca46eb58a0554124d8fafab9a05f0cb863e031356b72c81cf327") false
    over (fun _ h => by cases h) (by kernel_rfl) (fun _ h => by cases h) hartKeeps_row_tie rfl ⟨rfl, rfl⟩ (by kernel_rfl) rfl
    (fun f fn hf hfn => by
      obtain rfl : f = 7 := Option.some.inj ((show Tryz.prog.funcNamed "postbag/postbaglaw06.HartKeeps" = some 7 by kernel_rfl).symm.trans hf) |>.symm
      obtain rfl : fn = Tryz.f7 := (Option.some.inj (Tryz.func7.symm.trans hfn)).symm
      exact ⟨by kernel_rfl, fun j t ht => by
        rw [Tryz.params7] at ht
        have hm : t ∈ [25, 3, 26] := by simpa using Array.mem_of_getElem? ht
        have hall : ([25, 3, 26].all fun u => !Tryz.prog.wantsStandIn u) = true := by kernel_rfl
        exact (show Tryz.prog.wantsStandIn t = false by simpa using List.all_eq_true.1 hall t hm)⟩)
    (by kernel_rfl)
#print axioms proved
end Go.Proofs.YtmggichckhoomaaGreatDoor.hartKeeps

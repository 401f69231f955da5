/-
  Proved here: instructions of lines, the reference's. Conditions: none.
-/
import Derived.Test.YtmggichckhoomaaDoorMa
import Derived.Test.YtmggichckhoomaaDoorLy
namespace Go.Proofs.YtmggichckhoomaaDoor
open Go.ChangeShapes Go.WideShapes Go.ChangeAt Go.RowKit
set_option linter.unusedVariables false
set_option linter.unusedSimpArgs false
/-- The lines that a line feed ends, and what stands behind the last one. -/
def segs : Bs → List Bs × Bs
  | [] => ([], [])
  | c :: r => if c = 10 then ([] :: (segs r).1, (segs r).2) else match (segs r).1 with
    | [] => ([], c :: (segs r).2)
    | h :: t => ((c :: h) :: t, (segs r).2)
def rd1 : List Bs → Bs → Nat → List I7 → Option (List I7) × Nat
  | [], rem, n, acc => if rem = [] then (some acc, 0) else (none, n + 1)
  | h :: t, rem, n, acc => match PI h with
    | none => (none, n + 1)
    | some i => rd1 t rem (n + 1) (acc ++ [i])
def rdS (l : Bs) (n : Nat) (acc : List I7) : Option (List I7) × Nat := rd1 (segs l).1 (segs l).2 n acc
theorem segs_no (a : Bs) (h : 10 ∉ a) : segs a = ([], a) := by
  induction a with
  | nil => rfl
  | cons c r ih =>
    have hc : ¬ c = 10 := fun e => h (by rw [e]; exact List.mem_cons_self ..)
    have hr : 10 ∉ r := fun e => h (List.mem_cons_of_mem _ e)
    simp only [segs]
    rw [if_neg hc, ih hr]
theorem segs_at (a b : Bs) (h : 10 ∉ a) : segs (a ++ 10 :: b) = (a :: (segs b).1, (segs b).2) := by
  induction a with
  | nil => simp [segs]
  | cons c r ih =>
    have hc : ¬ c = 10 := fun e => h (by rw [e]; exact List.mem_cons_self ..)
    have hr : 10 ∉ r := fun e => h (List.mem_cons_of_mem _ e)
    simp only [List.cons_append, segs]
    rw [if_neg hc, ih hr]
theorem rd_at (a b : Bs) (n : Nat) (acc : List I7) (h : 10 ∉ a) : rdS (a ++ 10 :: b) n acc = match PI a with | none => (none, n + 1) | some i => rdS b (n + 1) (acc ++ [i]) := by
  unfold rdS; rw [segs_at a b h]; rfl
theorem rd_end (a : Bs) (n : Nat) (acc : List I7) (h : 10 ∉ a) : rdS a n acc = if a = [] then (some acc, 0) else (none, n + 1) := by
  unfold rdS; rw [segs_no a h]; rfl
/-- What the loop keeps. -/
def RR (l : Bs) (f k n : Nat) (acc : List I7) : Prop := f ≤ k ∧ 10 ∉ (l.drop f).take (k - f) ∧ rdS (l.drop f) n acc = rdS l 0 []
theorem drop_cut (l : Bs) (f k : Nat) (h1 : f ≤ k) (hk : k < l.length) (hc : l[k] = 10) : l.drop f = (l.drop f).take (k - f) ++ 10 :: l.drop (k + 1) := by
  have e1 : (l.drop f).drop (k - f) = l.drop k := by rw [List.drop_drop]; congr 1; omega
  rw [← hc, ← List.drop_eq_getElem_cons hk, ← e1, List.take_append_drop]
theorem rr_hit (l : Bs) (f k n : Nat) (acc : List I7) (h : RR l f k n acc) (hk : k < l.length) (hc : l[k] = 10) :
    (PI ((l.drop f).take (k - f)) = none → rdS l 0 [] = (none, n + 1)) ∧ ∀ i, PI ((l.drop f).take (k - f)) = some i → RR l (k + 1) (k + 1) (n + 1) (acc ++ [i]) := by
  obtain ⟨h1, h2, h3⟩ := h
  have e := drop_cut l f k h1 hk hc
  have h4 := rd_at ((l.drop f).take (k - f)) (l.drop (k + 1)) n acc h2
  rw [← e, h3] at h4
  constructor
  · intro hp; rw [h4, hp]
  · intro i hp
    rw [hp] at h4
    exact ⟨Nat.le_refl _, by simp, h4.symm⟩
theorem rr_miss (l : Bs) (f k n : Nat) (acc : List I7) (h : RR l f k n acc) (hk : k < l.length) (hc : l[k] ≠ 10) : RR l f (k + 1) n acc := by
  obtain ⟨h1, h5, h6⟩ := h
  refine ⟨Nat.le_succ_of_le h1, ?_, h6⟩
  intro hm
  have e2 : (l.drop f).take (k + 1 - f) = (l.drop f).take (k - f) ++ [l[k]] := by
    have hkf : k + 1 - f = (k - f) + 1 := by omega
    rw [hkf, List.take_add_one]
    congr 1
    rw [List.getElem?_drop, show f + (k - f) = k by omega, List.getElem?_eq_getElem hk]
    rfl
  rw [e2] at hm
  rcases List.mem_append.1 hm with hm | hm
  · exact h5 hm
  · exact hc (List.mem_singleton.1 hm).symm
theorem rr_end (l : Bs) (f n : Nat) (acc : List I7) (h : RR l f l.length n acc) : rdS l 0 [] = if l.length ≤ f then (some acc, 0) else (none, n + 1) := by
  obtain ⟨h1, h2, h3⟩ := h
  have e : (l.drop f).take (l.length - f) = l.drop f := List.take_of_length_le (by simp)
  rw [e] at h2
  rw [← h3, rd_end _ n acc h2]
  by_cases hf : l.length ≤ f
  · rw [if_pos hf, if_pos (List.drop_eq_nil_of_le hf)]
  · rw [if_neg hf, if_neg (by intro c; have := congrArg List.length c; simp at this; omega)]
theorem rr_start (l : Bs) : RR l 0 0 0 [] := ⟨Nat.le_refl _, by simp, rfl⟩
theorem info23 : (Tryd.prog.info? 33).map (fun i => (i.zero, i.size, i.bytes)) = some (some (instA zero7), 7, 48) := by kernel_rfl
theorem parts23 : ∃ i, Tryd.prog.info? 33 = some i ∧ i.zero = some (instA zero7) ∧ i.size = 7 ∧ i.bytes = 48 := by
  have h := info23
  cases hq : Tryd.prog.info? 33 with
  | none => rw [hq] at h; cases h
  | some i =>
    rw [hq] at h
    simp only [Option.map_some, Option.some.injEq, Prod.mk.injEq] at h
    exact ⟨i, rfl, h.1, h.2.1, h.2.2⟩
def insC (i : I7) : List Value := [.int .i64 i.1, .int .i64 i.2.1, .int .i64 i.2.2.1, .int .i64 i.2.2.2.1, .int .i64 i.2.2.2.2.1, .bool i.2.2.2.2.2.1, .bool i.2.2.2.2.2.2]
theorem one_cell23 (i : I7) : ∀ u ∈ insC i, u.oneCell' = true := fun u hu => by
  unfold insC at hu
  simp only [List.mem_cons, List.not_mem_nil, or_false] at hu
  rcases hu with rfl | rfl | rfl | rfl | rfl | rfl | rfl <;> rfl
theorem news23 (w : World) (i : I7) : ∀ j u, (insC i)[j]? = some u → (w.alloc (.cells (insC i).toArray 33)).cell? ((⟨w.heap.size, 0, none⟩ : Addr).add j) = some u := fun j u h =>
  World.news_of_block (cs := (insC i).toArray) (t := 33) (fr := (0, 0)) (heap_alloc_new w _) j u (by simpa using h)
theorem own_grown23 {w wr w1 : World} {v : Value} {n : Nat} {xs : List Value} {o : Obj} (hN : Nb w wr) (hown : wr.ownsRow w.heap.size 33 7 v n xs)
    (hg : (wr.alloc o).grownBy w1 v.ownBlock) : Nb w w1 :=
  Below.grown (hN.alloc _) hg (by have := hN.size; simp; omega) (fun k hk => (hown.lt k hk).1)
theorem own_nb23 {w w' : World} {b n : Nat} {v : Value} {xs : List Value} (h : w.ownsRow b 33 7 v n xs) (hn : Nb w w') : w'.ownsRow b 33 7 v n xs :=
  h.kept (row := none) ⟨hn.os, hn.tape, hn.output, hn.size, fun k hk _ => Below.block hn k hk⟩ (by cases v.ownBlock <;> simp)
/-- What Read answers: the instructions, or the first wrong line. -/
def ReadAns (l : Bs) (w : World) (e : Ending) (w' : World) : Prop := ∃ v, e = .returned (.tuple #[v, .int .i64 ((rdS l 0 []).2 : Int), .int .i64 (if (rdS l 0 []).1.isSome = true then 0 else 30)]) ∧ Nb w w' ∧
  w'.ownsRow w.heap.size 33 7 v (((rdS l 0 []).1.getD []).length) (((rdS l 0 []).1.getD []).flatMap insC)
theorem read_err {l : Bs} {w w' : World} {n : Nat} (h : rdS l 0 [] = (none, n)) (hn : Nb w w') (b : Int) (hb : b = n) : ReadAns l w (.returned (.tuple #[.slice none 0 0, .int .i64 b, .int .i64 30])) w' := by
  refine ⟨.slice none 0 0, ?_, hn, ?_⟩
  · rw [h, hb]; rfl
  · rw [h]; exact World.ownsRow_nil _ _ _ _
theorem read_ok {l : Bs} {w w' : World} {acc : List I7} {v : Value} (h : rdS l 0 [] = (some acc, 0)) (hn : Nb w w') (ho : w'.ownsRow w.heap.size 33 7 v acc.length (acc.flatMap insC)) : ReadAns l w (.returned (.tuple #[v, .int .i64 0, .int .i64 0])) w' := by
  refine ⟨v, ?_, hn, ?_⟩
  · rw [h]; rfl
  · rw [h]; exact ho
set_option maxRecDepth 100000 in
set_option maxHeartbeats 4000000 in
theorem rread_any (l : Bs) (hl : l.length ≤ 1000000) (w : World) :
    Calls Tryd.prog 7 #[.string ⟨l.toArray⟩] w (ReadAns l w) := by
  obtain ⟨i0, hi, hz0, hz1, hz2⟩ := parts23
  go_enter Tryd.func7, Tryd.ntmps7
  go_wp2_with fail
  go_loopw [5, 6, 7, 8] (fun o f ln i wr => ∃ (k g n : Nat) (b : Int) (acc : List I7), b = n + 1 ∧ k ≤ l.length ∧ g ≤ k ∧ n ≤ k ∧ acc.length ≤ g ∧ f = .int .i64 g ∧ ln = .int .i64 b ∧ i = .int .i64 k ∧ Hid (RR l g k n acc) ∧ wr.ownsRow w.heap.size 33 7 o acc.length (acc.flatMap insC) ∧ Nb w wr) (fun _ _ _ i _ => l.length - (intOf i).toNat)
  case atStart => exact ⟨0, 0, 0, 1, [], rfl, Nat.zero_le _, Nat.le_refl _, Nat.le_refl _, Nat.le_refl _, rfl, rfl, rfl, Lib.hid (rr_start l), World.ownsRow_nil _ _ _ _, Nb.refl _⟩
  case round =>
    obtain ⟨k, g, n, b, acc, hb, hk, hg, hnk, ha, rfl, rfl, rfl, hR, hown, hN⟩ := hrel
    by_cases hlt : k < l.length
    · obtain ⟨x, hxr, hx, hc, hm⟩ : ∃ x : Nat, x < 256 ∧ (∀ p, ((⟨l.toArray⟩ : ByteArray)[k]'p).toNat = x) ∧ Hid (x = 10 → (PI ((l.drop g).take (k - g)) = none → rdS l 0 [] = (none, n + 1)) ∧ ∀ i, PI ((l.drop g).take (k - g)) = some i → RR l (k + 1) (k + 1) (n + 1) (acc ++ [i])) ∧ Hid (x ≠ 10 → RR l g (k + 1) n acc) :=
        ⟨l[k].toNat, l[k].toNat_lt, data_at l k hlt, Lib.hid fun h => rr_hit l g k n acc hR.out hlt (UInt8.toNat_inj.1 h), Lib.hid fun h => rr_miss l g k n acc hR.out hlt (fun e => h (by rw [e]; rfl))⟩
      clear hk
      by_cases c : (x : Int) = 10
      · have c' : ((x : Int) == 10) = true := by rw [c]; rfl
        have hP := Lib.hid (rparse_any ((l.drop g).take (k - g)) (by simp; omega))
        rw [← ext_list] at hP
        have hcc := Lib.hid (hc.out (by omega))
        clear c hc hm
        unfold PV PE at hP
        cases hq : PI ((l.drop g).take (k - g)) with
        | none =>
          rw [hq] at hP
          have hq := Lib.hid hq
          rename_i hq_
          clear hq_
          have hn1 := Lib.hid (hcc.out.1 hq.out)
          go_wp2_with fail
          refine (hP.out _).mono ?_
          rintro e w4 ⟨rfl, hn⟩
          simp only [instA, Option.getD_none, Option.isSome_none, zero7]
          go_wp2_with fail
          go_ret3
          exact read_err hn1.out ((hN.trans hn).alloc _) ((n : Int) + 1) rfl
        | some i =>
          rw [hq] at hP
          have hR2 := Lib.hid (hcc.out.2 i hq)
          clear hq
          go_wp2_with fail
          refine (hP.out _).mono ?_
          rintro e w4 ⟨rfl, hn⟩
          simp only [instA, Option.getD_some, Option.isSome_some, if_true]
          have hN1 := hN.trans hn
          have hown1 := own_nb23 hown hn
          clear hn hown
          go_upto_region 11 with (fail)
          obtain ⟨W5, h5⟩ : ∃ W5, w4.alloc (Obj.cells #[.int .i64 i.1, .int .i64 i.2.1, .int .i64 i.2.2.1, .int .i64 i.2.2.2.1, .int .i64 i.2.2.2.2.1, .bool i.2.2.2.2.2.1, .bool i.2.2.2.2.2.2] 33) = W5 := ⟨_, rfl⟩
          have k5 := blk_made w4 _ h5 rfl
          have h6 : Nb w4 W5 := by rw [← h5]; exact (Nb.refl _).alloc _
          rw [h5]
          clear h5
          have hN2 := hN1.trans h6
          have hown2 := own_nb23 hown1 h6
          clear hown1 hN1 h6
          obtain ⟨z, p0, p1, p2, p3, p4, p5, p6⟩ := cells7 k5
          go_wp2_with (at_builtin; refine wpList_append_own _ rfl _ _ 22 rfl w.heap.size 33 i0 _ 7 48 Tryd.underlying22 hi hz0 hz1 hz2 rfl (by decide) _ _ _ rfl (hown2.alloc _) ⟨W5.heap.size, 0, none⟩ 1 1 (insC i) rfl rfl ?c1 ?c2 ?c3 ?c4 ?c5 ?_)
          case c1 => exact news23 W5 i
          case c2 => exact one_cell23 i
          case c3 => unfold maxLen; omega
          case c4 => omega
          case c5 => have := hN2.size; simp; omega
          intro v' w6 hown' hgrow _
          have hN3 := own_grown23 hN2 hown2 hgrow
          have hown3 : w6.ownsRow w.heap.size 33 7 v' (acc ++ [i]).length ((acc ++ [i]).flatMap insC) := by
            rw [List.length_append, List.flatMap_append]
            simpa using hown'
          clear hown' hgrow hown2 hN2 k5 z p0 p1 p2 p3 p4 p5 p6
          go_wp2_with fail
          exact ⟨⟨k + 1, k + 1, n + 1, _, acc ++ [i], rfl, by omega, Nat.le_refl _, by omega, by simp; omega, rfl, by first | rfl | (rw [hb]; rfl), rfl, hR2, hown3, hN3⟩, by simp [intOf]; omega⟩
      · have c' : ((x : Int) == 10) = false := beq_eq_false_iff_ne.2 c
        clear c
        go_wp2_with fail
        exact ⟨⟨k + 1, g, n, b, acc, hb, by omega, by omega, by omega, ha, rfl, rfl, rfl, Lib.hid (hm.out (by have := ne_of_beq_false c'; omega)), hown, hN⟩, by simp [intOf]; omega⟩
    · obtain rfl : k = l.length := by omega
      have hd := Lib.hid (rr_end l g n acc hR.out)
      clear hk hlt
      by_cases hg2 : (g : Int) < (l.length : Int)
      · go_wp2_with fail
        go_ret3
        exact read_err (n := n + 1) (by rw [hd.out, if_neg (by omega)]) hN b hb
      · go_wp2_with fail
        go_ret3
        have h2 : rdS l 0 [] = (some acc, 0) := by rw [hd.out, if_pos (by omega)]
        exact read_ok h2 hN hown
end Go.Proofs.YtmggichckhoomaaDoor

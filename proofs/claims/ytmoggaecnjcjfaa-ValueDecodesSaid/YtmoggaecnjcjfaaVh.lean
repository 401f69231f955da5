/-
  Proved here: the words of a value, as a plain function; rows of words that a call owns: zeros put behind them, a word put into them. Conditions: none.
-/
import Derived.Test.YtmoggaecnjcjfaaVe
import Derived.Laws.AppendOwn
import Derived.Laws.OwnMore
import Derived.Deep.AppendLies
import Derived.Lib.AppendZeros
namespace Go.Proofs.Ytmoggaecnjcjfaa
open Go.RowKit Go.ChangeMaps
set_option linter.unusedVariables false
set_option linter.unusedSimpArgs false
set_option maxRecDepth 100000
set_option maxHeartbeats 4000000
def lowW (n : Int) : Int := IntKind.u64.wrap (IntKind.u64.wrap n * 4)
/-- The word of what is no tuple. -/
def wdOf (k n : Int) : Int := if k = 3 then bits .or .u64 (bits .or .u64 (lowW n) 1) 2 else if k = 2 then bits .or .u64 (lowW n) 2 else lowW n
/-- The word of a tuple whose words begin at a place. -/
def tupW (base : Int) (at_ : Nat) : Int := IntKind.u64.wrap (IntKind.u64.wrap (base + 8 * (at_ : Int)) + 1)
mutual
/-- A value's word, and the words behind it. -/
def Vl.enc (base : Int) (l : List Int) : Vl → Int × List Int
  | .mk k n _ args => if k = 4 then (tupW base l.length, Vl.encL base l.length 0 ((l ++ [(args.length : Int)]) ++ List.replicate args.length 0) args) else (wdOf k n, l)
/-- Parts from a place on. -/
def Vl.encL (base : Int) (at_ i : Nat) (l : List Int) : List Vl → List Int
  | [] => l
  | x :: r => Vl.encL base at_ (i + 1) ((x.enc base l).2.set (at_ + 1 + i) (x.enc base l).1) r
end
theorem Vl.enc_tup {v : Vl} (h : v.kind = 4) (base : Int) (l : List Int) : v.enc base l = (tupW base l.length, Vl.encL base l.length 0 ((l ++ [(v.args.length : Int)]) ++ List.replicate v.args.length 0) v.args) := by
  cases v with
  | mk k n av args =>
    simp only [Vl.kind] at h
    subst h
    simp only [Vl.enc, Vl.args, if_true]
theorem Vl.enc_leaf {v : Vl} (h : v.kind ≠ 4) (base : Int) (l : List Int) : v.enc base l = (wdOf v.kind v.n, l) := by
  cases v with
  | mk k n av args =>
    simp only [Vl.kind] at h
    simp only [Vl.enc, if_neg h, Vl.kind, Vl.n]
theorem encL_len (base : Int) (at_ : Nat) : ∀ (r : List Vl), (∀ x ∈ r, ∀ l, (x.enc base l).2.length = l.length + x.wd) → ∀ (i : Nat) (l : List Int), (Vl.encL base at_ i l r).length = l.length + sumL (r.map Vl.wd)
  | [], _, i, l => by simp [Vl.encL, sumL]
  | x :: r, h, i, l => by
    rw [Vl.encL, encL_len base at_ r (fun y hy => h y (List.mem_cons_of_mem _ hy)), List.length_set, h x (List.mem_cons_self ..)]
    simp only [List.map_cons, sumL]
    omega
theorem enc_len (base : Int) : ∀ (v : Vl) (l : List Int), (v.enc base l).2.length = l.length + v.wd := by
  intro v
  induction v using Vl.ind with
  | h v ih =>
    intro l
    by_cases h4 : v.kind = 4
    · rw [Vl.enc_tup h4, Vl.wd_tup h4]
      show (Vl.encL base l.length 0 _ v.args).length = _
      rw [encL_len base l.length v.args ih]
      simp only [List.length_append, List.length_cons, List.length_nil, List.length_replicate]
      omega
    · rw [Vl.enc_leaf h4, Vl.wd_leaf h4]
      rfl
theorem encL_step (base : Int) (at_ i : Nat) (l : List Int) {r : List Vl} {x : Vl} (h : r[i]? = some x) : Vl.encL base at_ i l (r.drop i) = Vl.encL base at_ (i + 1) ((x.enc base l).2.set (at_ + 1 + i) (x.enc base l).1) (r.drop (i + 1)) := by
  have hi := (List.getElem?_eq_some_iff.1 h).1
  rw [List.drop_eq_getElem_cons hi]
  rw [List.getElem?_eq_getElem hi] at h
  rw [Option.some.inj h, Vl.encL]
abbrev uL (l : List Int) : List Value := l.map (.int .u64 ·)
theorem zero_cells (z : Value) (n : Nat) : (Builtin.zeroCells #[z] n).toList = List.replicate n z := by
  apply List.ext_getElem?
  intro j
  by_cases hj : j < n
  · simp [Builtin.zeroCells, hj, Nat.mod_one]
  · simp [Builtin.zeroCells, hj]
/-- Zeros put behind a row of words that the call owns. -/
theorem run_append_zeros {P : Program} (w : World) (base : Nat) (t tn ty e : TypeId) (i : TypeInfo) (z : Value) (bytes : Nat) (kn : IntKind) (ht : P.underlying t = some (.slice e)) (htn : P.underlying tn = some (.int kn)) (hi : P.info? e = some i) (hz : i.zero = some z)
    (hsize : i.size = 1) (hby : i.bytes = bytes) (hzs : z.cells = #[z]) (h1 : z.oneCell' = true)
    (g cap n : Nat) (xs : List Value) (hown : w.ownsRow base e 1 (.slice (some ⟨g, 0, none⟩) n cap) n xs) (m : Nat)
    (h63 : n + m ≤ maxLen) (hbytes : (n + m) * bytes ≤ 140737488355328) (hbase : base ≤ w.heap.size) :
    ∃ v' w', (Builtin.append_ #[t, tn] ty #[.slice (some ⟨g, 0, none⟩) n cap, .int .i64 (m : Int)]).run P w = .ok v' w' ∧ w'.ownsRow base e 1 v' (n + m) (xs ++ List.replicate m z) ∧ w.grownBy w' (some g) ∧ v' ≠ .slice none 0 0 := by
  subst hby
  rcases hown.2 with ⟨h0, -⟩ | ⟨g', cap', cur, h0, hbg, hg, hnc, hcm, hcs, htake⟩
  · cases h0
  simp only [Value.slice.injEq, Option.some.injEq, Addr.mk.injEq, and_true, true_and] at h0
  obtain ⟨rfl, rfl⟩ := h0
  have hsmall : n + m ≤ 9223372036854775807 := by simp only [maxLen] at h63; omega
  have hw : IntKind.i64.wrap (m : Int) = m := by rw [IntKind.wrap_i64]; omega
  have hneg : ¬ ((m : Int) < 0) := by omega
  have h48i : ¬ (281474976710656 < (m : Int) * (i.bytes : Int)) := by
    rw [← Int.natCast_mul]
    have : m * i.bytes ≤ (n + m) * i.bytes := Nat.mul_le_mul_right _ (by omega)
    omega
  have hxl : xs.length = n := by simpa using hown.1
  by_cases hroom : n + m ≤ cap
  · by_cases hm : m = 0
    · subst hm
      refine ⟨.slice (some ⟨g, 0, none⟩) n cap, w, ?_, by simpa using hown, ⟨rfl, rfl, rfl, Nat.le_refl _, fun _ _ _ => rfl⟩, by simp⟩
      have hw0 : IntKind.i64.wrap 0 = 0 := by rw [IntKind.wrap_i64]; rfl
      simp [Builtin.append_, run_underlying ht, run_underlying htn, sizeOf, typeInfo, hi, hsize, asInt, asIntOf, hw0, hnc, storeCells]
    · have hst := run_storeCells_at P g n e (List.replicate m z) 0 cur w hg (by simp; omega) (fun u hu => by rw [(List.mem_replicate.1 hu).2]; exact h1)
      simp only [Nat.add_zero] at hst
      have hr : (Builtin.append_ #[t, tn] ty #[.slice (some ⟨g, 0, none⟩) n cap, .int .i64 (m : Int)]).run P w = .ok (.slice (some ⟨g, 0, none⟩) (n + m) cap) (w.setRow g (cur.toList.take n ++ List.replicate m z ++ cur.toList.drop (n + (List.replicate m z).length)).toArray) := by
        simp [Builtin.append_, run_underlying ht, run_underlying htn, sizeOf, typeInfo, zeroValue, hi, hz, hzs, hsize, asInt, asIntOf, hw, hneg, h48i, hroom, hm, zero_cells, Addr.add_lit, hst]
      refine ⟨_, _, hr, ⟨by simp [hxl], .inr ⟨g, cap, _, rfl, hbg, setRow_heap w g cur _ e _ hg, hroom, hcm, ?_, ?_⟩⟩, ⟨rfl, rfl, rfl, by simp, fun k _ hk => setRow_other w g k _ (fun e => hk (by rw [e]))⟩, by simp⟩
      · simp
        omega
      · rw [Nat.mul_one] at htake ⊢
        have hl2 : (List.take n cur.toList ++ List.replicate m z).length = n + m := by rw [htake]; simp [hxl]
        rw [List.toList_toArray, ← hl2, htake]
        exact List.take_left
  · have h63' : ¬ (9223372036854775807 < ((n : Int) + (m : Int))) := by omega
    have hfit : Builtin.nextslicecap (n + m) cap * i.bytes ≤ 281474976710656 := growslice_fits (by omega) hbytes
    have h48' : ¬ (281474976710656 < Builtin.nextslicecap (n + m) cap * i.bytes) := by omega
    have holds : ∀ j u, xs[j]? = some u → w.drew.cell? ((⟨g, 0, none⟩ : Addr).add j) = some u := by simpa using hown.cells (g := g) rfl
    have hfo := run_firstCells_some (P := P) w.drew 1 n ⟨g, 0, none⟩ n cap xs (by simpa using hown.1) holds
    have hge := grownCap_ge w (n + m) cap e
    have hcm2 : grownCap w (n + m) cap e ≤ maxLen := grownCap_le_maxLen w (n + m) cap e h63
    have hm0 : m ≠ 0 := by omega
    refine ⟨.slice (some ⟨w.heap.size, 0, none⟩) (n + m) (grownCap w (n + m) cap e), w.drew.alloc (.cells (xs.toArray ++ (List.replicate m z).toArray ++ (List.replicate (grownCap w (n + m) cap e - (n + m)) z).toArray) e), ?_,
      ⟨by simp [hxl], .inr ⟨w.heap.size, _, _, rfl, hbase, heap_alloc_new w.drew _, hge, hcm2, by simp [hxl]; omega, ?_⟩⟩, ⟨rfl, rfl, rfl, by simp, fun k hk _ => heap_alloc_old w.drew _ hk⟩, by simp⟩
    · simp [Builtin.append_, run_underlying ht, run_underlying htn, sizeOf, typeInfo, zeroValue, hi, hz, hzs, hsize, asInt, asIntOf, hw, hneg, h48i, hroom, hm0, h63', h48', Question.forced, hfo, newRow, grownCap]
      congr 2
      apply Array.ext'
      simp [zero_cells]
    · have e1 : (xs ++ List.replicate m z).length = (n + m) * 1 := by simp [hxl]
      rw [← e1]
      simp only [Array.toList_append, List.append_assoc]
      rw [← List.append_assoc]
      exact List.take_left
end Go.Proofs.Ytmoggaecnjcjfaa

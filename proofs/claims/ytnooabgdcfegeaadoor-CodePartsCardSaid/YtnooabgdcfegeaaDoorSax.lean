/-
  Proved here: slices.Values of a row of instructions, as an iterator whose rounds may be left. Conditions: the rounds keep the row.
-/
import Derived.Test.YtnooabgdcfegeaaDoorSaw
import Derived.LoopNIn
import Derived.LoopIn
namespace Go.Proofs.YtnooabgdcfegeaaDoor
open Go.RowKit Go.Shelf
set_option linter.unusedVariables false
set_option linter.unusedSimpArgs false
set_option maxRecDepth 100000
set_option maxHeartbeats 8000000
attribute [local go_sem] Oper.semAt_some
/-- The cells of instructions, one behind the other. -/
def InsC (w : World) (b : Nat) (is : List In7) : Prop := ∀ k, k < is.length → ∃ i, is[k]? = some i ∧
  w.cell? ⟨b, k * 7, none⟩ = some (.int .i64 i.1) ∧ w.cell? ⟨b, k * 7 + 1, none⟩ = some (.int .i64 i.2.1) ∧ w.cell? ⟨b, k * 7 + 2, none⟩ = some (.int .i64 i.2.2.1) ∧ w.cell? ⟨b, k * 7 + 3, none⟩ = some (.int .i64 i.2.2.2.1) ∧ w.cell? ⟨b, k * 7 + 4, none⟩ = some (.int .i64 i.2.2.2.2.1) ∧ w.cell? ⟨b, k * 7 + 5, none⟩ = some (.bool i.2.2.2.2.2.1) ∧ w.cell? ⟨b, k * 7 + 6, none⟩ = some (.bool i.2.2.2.2.2.2)
theorem flat_get7 (is : List In7) (k j : Nat) (i : In7) (hk : is[k]? = some i) (hj : j < 7) : (is.flatMap i7C)[k * 7 + j]? = (i7C i)[j]? := by
  induction is generalizing k with
  | nil => simp at hk
  | cons a r ih =>
    rw [List.flatMap_cons]
    cases k with
    | zero =>
      simp at hk
      subst hk
      rw [List.getElem?_append_left (by simp [i7C]; omega)]
      simp
    | succ k =>
      rw [List.getElem?_append_right (by simp [i7C]; omega)]
      simp only [List.getElem?_cons_succ] at hk
      rw [← ih k hk]
      congr 1
      simp [i7C]; omega
theorem insC_of {w : World} {g n : Nat} {cur : Array Value} {fr : Nat × Nat} {is : List In7} (hg : w.heap[g]? = some (.cells cur 37 fr)) (hn : n = is.length) (ht : cur.toList.take (n * 7) = is.flatMap i7C) : InsC w g is := by
  subst hn
  intro k hk
  have hx : is[k]? = some is[k] := List.getElem?_eq_getElem hk
  have key : ∀ j (u : Value), j < 7 → (i7C is[k])[j]? = some u → w.cell? ⟨g, k * 7 + j, none⟩ = some u := by
    intro j u hj hu
    rw [← flat_get7 is k j _ hx hj, ← ht, List.getElem?_take] at hu
    split at hu
    · rw [cell_of_row _ _ _ _ _ _ hg, ← Array.getElem?_toList]; exact hu
    · cases hu
  exact ⟨is[k], hx, key 0 _ (by decide) rfl, key 1 _ (by decide) rfl, key 2 _ (by decide) rfl, key 3 _ (by decide) rfl, key 4 _ (by decide) rfl, key 5 _ (by decide) rfl, key 6 _ (by decide) rfl⟩
theorem val_any (X : Obj → Bool) (hXi : ∀ cs fr, X (.cells cs 37 fr) = false) (R : Nat → Prop) (l N B : Nat) (J Jx : List In7 → World → Prop) (hJ : OwnFrom B J) (hY : YldI X R l N J Jx) (L : List In7) (hIm : ∀ x ∈ L, ImOk x) (hL : L.length ≤ 1000)
    (SB base : Nat) (s : Value) (pre : List In7) (W : World) (hs : W.heap[SB]? = some (.cells #[s] 41 (0, 0))) (ho : W.ownsRow base 37 7 s L.length (L.flatMap i7C)) (hRg : ∀ g, s.ownBlock = some g → ¬ R g) (hj : J pre W) (hN : pre.length + L.length ≤ N) :
    Calls Tryd.prog 79 #[.func (.yield l) #[] #[], .pointer (some ⟨SB, 0, none⟩)] W (Went J Jx pre L) := by
  have hJh := Lib.hid hJ
  have hYh := Lib.hid hY
  have hlen0 := Lib.hid hN
  clear hJ hY hN
  have hsl : ∃ (A : Option Addr) (cap : Nat), s = .slice A L.length cap ∧ (0 < L.length → ∃ g, A = some ⟨g, 0, none⟩ ∧ L.length ≤ cap ∧ ∀ V, Kq X R W V → InsC V g L) := by
    rcases ho.2 with ⟨rfl, h0⟩ | ⟨g, cap, cur, rfl, hb, hg, hc, hm, hsz, ht⟩
    · exact ⟨none, 0, by rw [h0], fun h => by omega⟩
    · exact ⟨some ⟨g, 0, none⟩, cap, rfl, fun _ => ⟨g, rfl, hc, fun V hV => insC_of (hV.block (hRg g (by simp [Value.ownBlock])) hg (hXi _ _)) rfl ht⟩⟩
  obtain ⟨A, cap, rfl, hA⟩ := hsl
  have c0 := cell_of_row _ _ 0 _ _ _ hs
  have hA' := Lib.hid hA
  clear ho hRg hA hs
  refine (callsIn_wide (n := 1)).1 ?_
  refine callsIn_of_wp Tryd.func79 rfl trivial ?_ rfl
  simp only [Tryd.ntmps79, List.size_toArray, List.length_cons, List.length_nil, Nat.reduceAdd, Nat.reduceSub, Array.replicate_succ, Array.replicate_zero, List.push_toArray, List.append_toArray, List.nil_append, List.cons_append]
  gi_wp2
  gi_loopw [7] (fun i wr => ∃ k : Nat, k ≤ L.length ∧ i = .int .i64 k ∧ Hid (J (pre ++ L.take k) wr) ∧ Hid (Kq X R W wr)) (fun i _ => L.length - (intOf i).toNat)
  case atStart => exact ⟨0, Nat.zero_le _, rfl, Lib.hid (by simpa using hj), Lib.hid (Kq.refl _)⟩
  case round =>
    obtain ⟨k, hk, rfl, hJs, hKs⟩ := hrel
    by_cases hlt : k < L.length
    · obtain ⟨g, rfl, hcap, hrow⟩ := hA'.out (by omega)
      obtain ⟨⟨o1, o2, o3, o4, o5, o6, o7⟩, hx, p0, p1, p2, p3, p4, p5, p6⟩ := hrow wr hKs.out k hlt
      have htk := Lib.hid (show L.take (k + 1) = L.take k ++ [(o1, o2, o3, o4, o5, o6, o7)] by rw [List.take_add_one, hx]; rfl)
      have hyy := hYh.out 0 (pre ++ L.take k) (o1, o2, o3, o4, o5, o6, o7) (wr.alloc (.cells (i7C (o1, o2, o3, o4, o5, o6, o7)).toArray 37)) (hIm _ (List.mem_of_getElem? hx)) (hJh.out.alloc _ hJs.out) (by have := hlen0.out; rw [List.length_append, List.length_take]; omega)
      obtain ⟨fn, tmps, assign, body, hy, hR⟩ := hyy
      simp only [i7C] at hy hR
      replace hR := Lib.hid hR
      clear hx hrow
      gi_wp2
      refine hR.out.mono ?_
      rintro e W5 (⟨rfl, hj3, hk3⟩ | ⟨rfl, hx3, hk3⟩)
      · clear p0 p1 p2 p3 p4 p5 p6 hy hR
        gi_wp2
        go_roundw
        case rel => exact ⟨k + 1, hlt, by simp, Lib.hid (by rw [htk.out, ← List.append_assoc]; exact hj3), Lib.hid (hKs.out.trans (Kq.trans (Kq.of_nb (Below.alloc (Below.refl _ _) (Nat.le_refl _) _)) hk3))⟩
        case measure => simp [intOf]; omega
      · clear p0 p1 p2 p3 p4 p5 p6 hy hR
        gi_wp2
        refine bodyPost_ret (results_none rfl _ _ _) rfl ?_
        exact ⟨⟨_, rfl⟩, .inr ⟨L.take (k + 1), List.take_prefix _ _, by rw [htk.out, ← List.append_assoc]; exact hx3⟩⟩
    · obtain rfl : k = L.length := by omega
      have hJe : J (pre ++ L) wr := by have := hJs.out; rwa [List.take_length] at this
      gi_wp2
      go_end0
      exact ⟨⟨_, rfl⟩, .inl hJe⟩
end Go.Proofs.YtnooabgdcfegeaaDoor

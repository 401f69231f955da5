/-
  Proved here: size: how many words a draft is. Conditions: where the draft lies.
-/
import Derived.Test.YtnooabgdcfegeaaDoorSbd
namespace Go.Proofs.YtnooabgdcfegeaaDoor
open Go.RowKit Go.Shelf
set_option linter.unusedVariables false
set_option linter.unusedSimpArgs false
set_option maxRecDepth 100000
set_option maxHeartbeats 8000000
/-- How many words items become. -/
def wSum : List (Itm × Bool) → Nat
  | [] => 0
  | (i, f) :: r => (insI i 0 0 f).length + wSum r
theorem wSum_app (a b : List (Itm × Bool)) : wSum (a ++ b) = wSum a + wSum b := by
  induction a with
  | nil => simp [wSum]
  | cons p r ih => obtain ⟨i, f⟩ := p; rw [List.cons_append, wSum, wSum, ih]; omega
theorem insI_len (i : Itm) (at_ to : Int) (f : Bool) : (insI i at_ to f).length ≤ 8 := by
  unfold insI
  have := conI_len i.2.1.2.1 i.2.2.2
  have : (brI i.2.1 (farI to at_) f).length ≤ 2 := by cases f <;> simp [brI]
  repeat' split
  all_goals first | omega | simp
theorem wSum_le (a : List (Itm × Bool)) : wSum a ≤ 8 * a.length := by
  induction a with
  | nil => simp [wSum]
  | cons p r ih => obtain ⟨i, f⟩ := p; have := insI_len i 0 0 f; rw [wSum, List.length_cons]; omega
theorem size_any (it : Option Addr) (b off cap g c2 : Nat) (base : Int) (is : List Itm) (fs : List Bool) (hit : is ≠ [] → it = some ⟨b, off, none⟩) (hfs : fs.length = is.length) (hcap : is.length ≤ cap) (hc2 : is.length ≤ c2) (hl : is.length ≤ 100000) (hv : ∀ i ∈ is, 0 ≤ i.2.2.2 ∧ i.2.2.2 < 18446744073709551616 ∧ ImOk i.2.1) (w : World) (hI : ItAt w b off is) (hF : FlAt w g fs) :
    Calls Tryd.prog 13 #[drV it is.length cap base g c2] w fun r w' => r = .returned (.int .i64 (wSum (is.zip fs))) ∧ Nb w w' := by
  unfold drV
  obtain ⟨ps, hps⟩ : ∃ ps, is.zip fs = ps := ⟨_, rfl⟩
  have hpl : ps.length = is.length := by rw [← hps, List.length_zip]; omega
  have hw : ∀ (k : Nat) (w2 : World), k < is.length → Nb w w2 → ∃ m : Nat, m ≤ 8 ∧ wSum (ps.take (k + 1)) = wSum (ps.take k) + m ∧ Calls Tryd.prog 30 #[.agg #[.slice it is.length cap, .int .u64 base, .slice (some ⟨g, 0, none⟩) is.length c2], .int .i64 k] w2 fun r w' => r = .returned (.int .i64 m) ∧ Nb w2 w' := by
    intro k w2 hk hn
    obtain rfl := hit (by rintro rfl; simp at hk)
    have h1 : is[k]? = some is[k] := List.getElem?_eq_getElem hk
    have h2 : fs[k]? = some (fs[k]'(by omega)) := List.getElem?_eq_getElem (by omega)
    have h3 : ps[k]? = some (is[k], fs[k]'(by omega)) := (congrArg (fun l : List (Itm × Bool) => l[k]?) hps).symm.trans (List.getElem?_zip_eq_some.2 ⟨h1, h2⟩)
    have hm := hv _ (List.getElem_mem hk)
    refine ⟨_, insI_len is[k] 0 0 (fs[k]'(by omega)), ?_, wordsOf_any b off cap g c2 base is fs hcap hc2 hl k _ _ h1 h2 hm.1 hm.2.1 hm.2.2 w2 (hI.nb hn) (hF.nb hn)⟩
    rw [List.take_add_one, h3, wSum_app]
    simp [wSum]
  have hW := Lib.hid hw
  have hle : ∀ k, k ≤ is.length → wSum (ps.take k) ≤ 800000 := fun k hk => by have := wSum_le (ps.take k); rw [List.length_take] at this; omega
  have hle' := Lib.hid hle
  have hpl' := Lib.hid hpl
  rw [hps]
  clear hI hF hv hw hle hps hpl hfs hit
  obtain ⟨n, hn⟩ : ∃ n, is.length = n := ⟨_, rfl⟩
  rw [hn] at hW hle' hpl' hcap hc2 hl ⊢
  clear hn
  go_enter Tryd.func13, Tryd.ntmps13
  go_upto_region 1 with (fail)
  obtain ⟨W1, hW1⟩ : ∃ W1, w.alloc (.cells #[.slice it n cap, .int .u64 base, .slice (some ⟨g, 0, none⟩) n c2] 48) = W1 := ⟨_, rfl⟩
  have n1 : Nb w W1 := by rw [← hW1]; exact Below.alloc (Below.refl _ _) (Nat.le_refl _) _
  have b1 : W1.heap[w.heap.size]? = some (.cells #[.slice it n cap, .int .u64 base, .slice (some ⟨g, 0, none⟩) n c2] 48 (0, 0)) := by rw [← hW1]; exact new_bkc _ _ rfl
  rw [hW1]
  clear hW1
  have c0 := cell_of_row _ _ 0 _ _ _ b1
  have c1 := cell_of_row _ _ 1 _ _ _ b1
  have c2' := cell_of_row _ _ 2 _ _ _ b1
  go_wp2_with fail
  go_loopw [3, 8] (fun o i wr => ∃ k : Nat, k ≤ n ∧ i = .int .i64 k ∧ o = .int .i64 (wSum (ps.take k)) ∧ Hid (Nb W1 wr)) (fun _ i _ => n - (intOf i).toNat)
  case atStart => exact ⟨0, Nat.zero_le _, rfl, rfl, Lib.hid (Nb.refl _)⟩
  case round =>
    obtain ⟨k, hk, rfl, rfl, hN⟩ := hrel
    by_cases hlt : k < n
    · obtain ⟨m, hm8, hsum, hcall⟩ := hW.out k wr hlt (n1.trans hN.out)
      have hs := hle'.out k hk
      have c0 := hN.out.cell c0
      have c1 := hN.out.cell c1
      have c2' := hN.out.cell c2'
      have hcall' := Lib.hid hcall
      have hsum' := Lib.hid hsum
      clear hcall hsum
      generalize wSum (ps.take k) = S at *
      have e1 : IntKind.i64.wrap ((S : Int) + m) = ((S + m : Nat) : Int) := by rw [IntKind.wrap_i64]; omega
      go_wp2_with (go_at_call 30; refine hcall'.out.mono ?_; rintro r w1 ⟨rfl, hn1⟩)
      exact ⟨⟨k + 1, hlt, by simp, by rw [hsum'.out, Int.natCast_add], Lib.hid (hN.out.trans hn1)⟩, by simp [intOf]; omega⟩
    · obtain rfl : k = n := by omega
      have ht : ps.take k = ps := by rw [← hpl'.out, List.take_length]
      rw [ht]
      clear hk hlt
      go_wp2_with fail
      go_ret
      exact ⟨rfl, n1.trans hN.out⟩
end Go.Proofs.YtnooabgdcfegeaaDoor

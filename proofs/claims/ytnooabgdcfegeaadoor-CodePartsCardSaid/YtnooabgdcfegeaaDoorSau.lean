/-
  Proved here: a constant's iterator yields its list, of any word. Conditions: none but that the number is a word.
-/
import Derived.Test.YtnooabgdcfegeaaDoorSat
namespace Go.Proofs.YtnooabgdcfegeaaDoor
open Go.RowKit Go.Shelf
set_option linter.unusedVariables false
set_option linter.unusedSimpArgs false
theorem con_all (rd : Int) : ∀ (k : Nat) (v : Int), 0 ≤ v → v < 18446744073709551616 → lvl k v → ConOK rd v (conL rd (k + 1) v) := by
  intro k
  induction k with
  | zero =>
    intro v h0 h1 hl
    have hl' : FitB (wrap64 v) 32 = true := hl
    intro X R l N B J Jx hX hJ hJx hY VB RB hVB hRB pre W hB hR hV hRd hj hN
    cases hf : FitB (wrap64 v) 12 with
    | true =>
      have e : conL rd (0 + 1) v = [(22, rd, 0, 0, wrap64 v, false, false)] := by rw [conL, if_pos hf]
      rw [e] at hN ⊢
      exact con_12 X R l N B J Jx hJ hY rd v h0 h1 hf VB RB pre W hV hRd hj (by simpa using hN)
    | false =>
      have e : conL rd (0 + 1) v = luiI rd v :: talI 41 rd v := by rw [conL, if_neg (by rw [hf]; simp), if_pos hl']
      rw [e] at hN ⊢
      exact con_32 X hX R l N B J Jx hJ hY rd v h0 h1 hf hl' VB RB hVB hRB pre W hR hV hRd hj hN
  | succ k ih =>
    intro v h0 h1 hl
    intro X R l N B J Jx hX hJ hJx hY VB RB hVB hRB pre W hB hR hV hRd hj hN
    cases hf : FitB (wrap64 v) 12 with
    | true =>
      have e : conL rd (k + 1 + 1) v = [(22, rd, 0, 0, wrap64 v, false, false)] := by rw [conL, if_pos hf]
      rw [e] at hN ⊢
      exact con_12 X R l N B J Jx hJ hY rd v h0 h1 hf VB RB pre W hV hRd hj (by simpa using hN)
    | false =>
      cases hg : FitB (wrap64 v) 32 with
      | true =>
        have e : conL rd (k + 1 + 1) v = luiI rd v :: talI 41 rd v := by rw [conL, if_neg (by rw [hf]; simp), if_pos hg]
        rw [e] at hN ⊢
        exact con_32 X hX R l N B J Jx hJ hY rd v h0 h1 hf hg VB RB hVB hRB pre W hR hV hRd hj hN
      | false =>
        have e : conL rd (k + 1 + 1) v = conL rd (k + 1) (hiI v) ++ ((28, rd, rd, 0, 12, false, false) :: talI 22 rd v) := by rw [conL, if_neg (by rw [hf]; simp), if_neg (by rw [hg]; simp)]
        rw [e] at hN ⊢
        have hl2 : lvl k (hiI v) := by
          rcases hl with h | h
          · rw [hg] at h; cases h
          · exact h
        have hi := hi_in v
        exact con_64 X hX R l N B J Jx hJ hJx hY rd v h0 h1 hf hg _ (ih (hiI v) hi.1 hi.2 hl2) VB RB hVB hRB pre W hB hR hV hRd hj hN
/-- The instructions of a constant. -/
def conI (rd v : Int) : List In7 := conL rd 4 v
theorem con_ok (rd v : Int) (h0 : 0 ≤ v) (h1 : v < 18446744073709551616) : ConOK rd v (conI rd v) := con_all rd 3 v h0 h1 (lvl_all v h0 h1)
end Go.Proofs.YtnooabgdcfegeaaDoor

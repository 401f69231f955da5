/-
  Proved here: What Sign and Fits of the code and of the reference answer. Conditions: the arguments are words. ¦ the instructions of a constant, as a plain list; how often the code calls itself for one. Conditions: the number is a word. ¦ how a world that has only grown is used: what was there is there still. No condition.
-/
import Derived.Test.YtnooabgdcfegeaaDoorSab
import Derived.Test.YtnooabgdcfegeaaDoorSac
import Derived.WalkKit
import Derived.WalkSpells
import Derived.WalkLawsBesides
import Derived.Handy
section
namespace Go.Proofs.YtnooabgdcfegeaaDoor
open Go.RowKit
set_option linter.unusedVariables false

theorem ret_bool {a b : Bool} (h : a = b) : Ending.returned (.bool a) = .returned (.bool b) := by rw [h]
theorem sign_any (x n : Int) (h0 : 0 ≤ x) (h1 : x < 18446744073709551616) (w : World) :
    Calls Tryd.prog 75 #[.int .u64 x, .int .i64 n] w fun e w' => e = .returned (.int .u64 (Sgn x n)) ∧ w = w' := by
  by_cases h : n < 1 ∨ 63 < n
  · have H := Lib.hid (sgn_no x n h)
    by_cases c1 : n < 1
    · clear h
      go_enter Tryd.func75, Tryd.ntmps75
      go_wp2
      go_ret
      exact ⟨ret_int H.out, rfl⟩
    have c2 : 63 < n := by omega
    clear h
    go_enter Tryd.func75, Tryd.ntmps75
    go_wp2
    go_ret
    exact ⟨ret_int H.out, rfl⟩
  · have g1 : 1 ≤ n := by omega
    have g2 : n ≤ 63 := by omega
    clear h
    cases ht : (bits .and .u64 (x / 2 ^ (n.toNat - 1)) 1 == 1)
    · have H := Lib.hid (sign_not x n h0 h1 g1 g2 ht)
      go_enter Tryd.func75, Tryd.ntmps75
      go_wp2
      go_ret
      exact ⟨ret_int H.out, rfl⟩
    · have H := Lib.hid (sign_or x n h0 h1 g1 g2 ht)
      go_enter Tryd.func75, Tryd.ntmps75
      go_wp2
      go_ret
      exact ⟨ret_int H.out, rfl⟩

theorem fits_any (v n : Int) (h0 : -9223372036854775808 ≤ v) (h1 : v < 9223372036854775808) (w : World) :
    Calls Tryd.prog 33 #[.int .i64 v, .int .i64 n] w fun e w' => e = .returned (.bool (FitB v n)) ∧ w = w' := by
  by_cases c1 : n < 1
  · have H := Lib.hid (fit_no v n c1)
    go_enter Tryd.func33, Tryd.ntmps33
    go_wp2
    go_ret
    exact ⟨ret_bool H.out.symm, rfl⟩
  by_cases c2 : 63 < n
  · have H := Lib.hid (fit_all v n c2)
    go_enter Tryd.func33, Tryd.ntmps33
    go_wp2
    go_ret
    exact ⟨ret_bool H.out.symm, rfl⟩
  have g1 : 1 ≤ n := by omega
  have g2 : n ≤ 63 := by omega
  have H := Lib.hid (fit_mid v n g1 g2)
  clear c1 c2
  have hp := half_le n g1 g2
  have e : Hid ((2 : Int) ^ (n.toNat - 1) = ((2 ^ (n.toNat - 1) : Nat) : Int)) := by show _ = _; simp
  by_cases c3 : -(2 : Int) ^ (n.toNat - 1) ≤ v
  · go_enter Tryd.func33, Tryd.ntmps33
    go_wp2
    go_ret
    exact ⟨ret_bool (by rw [H.out, ← e.out]; simp [c3]), rfl⟩
  · go_enter Tryd.func33, Tryd.ntmps33
    go_wp2
    go_ret
    exact ⟨ret_bool (by rw [H.out, ← e.out, decide_eq_false (by omega)]; rfl), rfl⟩
end Go.Proofs.YtnooabgdcfegeaaDoor
end
section
namespace Go.Proofs.YtnooabgdcfegeaaDoor
open Go.RowKit
set_option linter.unusedVariables false
set_option linter.unusedSimpArgs false
/-- An instruction: operation, rd, rs1, rs2, Imm, Aq, Rl. -/
abbrev In7 := Int × Int × Int × Int × Int × Bool × Bool
def i7C (i : In7) : List Value := [.int .i64 i.1, .int .i64 i.2.1, .int .i64 i.2.2.1, .int .i64 i.2.2.2.1, .int .i64 i.2.2.2.2.1, .bool i.2.2.2.2.2.1, .bool i.2.2.2.2.2.2]
/-- What is left of a number when its upper part is taken away. -/
def upI (v : Int) : Int := IntKind.u64.wrap (v - Sgn v 12)
def luiI (rd v : Int) : In7 := (1, rd, 0, 0, wrap64 (Sgn (upI v) 32), false, false)
def morI (op rd v : Int) : In7 := (op, rd, rd, 0, wrap64 (Sgn v 12), false, false)
def talI (op rd v : Int) : List In7 := if Sgn v 12 = 0 then [] else [morI op rd v]
/-- The number whose instructions stand first. -/
def hiI (v : Int) : Int := IntKind.u64.wrap (wrap64 (upI v) / 4096)
/-- The instructions of a constant, by so many levels at most. -/
def conL (rd : Int) : Nat → Int → List In7
  | 0, _ => []
  | k + 1, v => if FitB (wrap64 v) 12 = true then [(22, rd, 0, 0, wrap64 v, false, false)] else if FitB (wrap64 v) 32 = true then luiI rd v :: talI 41 rd v
    else conL rd k (hiI v) ++ ((28, rd, rd, 0, 12, false, false) :: talI 22 rd v)
/-- So many levels are enough. -/
def lvl : Nat → Int → Prop
  | 0, v => FitB (wrap64 v) 32 = true
  | k + 1, v => FitB (wrap64 v) 32 = true ∨ lvl k (hiI v)
/-- An instruction's number fits. -/
def ImOk (x : In7) : Prop := -9223372036854775808 ≤ x.2.2.2.2.1 ∧ x.2.2.2.2.1 < 9223372036854775808
theorem wrap64_r (v : Int) : -9223372036854775808 ≤ wrap64 v ∧ wrap64 v < 9223372036854775808 := by unfold wrap64; omega
theorem sgn12 (v : Int) (h0 : 0 ≤ v) (h1 : v < 18446744073709551616) : Sgn v 12 = if v % 4096 < 2048 then v % 4096 else v % 4096 + 18446744073709547520 := by
  rw [← sgn_yes v 12 (by omega) (by omega)]
  obtain ⟨n, rfl⟩ : ∃ n : Nat, v = n := ⟨v.toNat, by omega⟩
  have e : (2 : Nat) ^ ((12 : Int).toNat - 1) = 2048 := by decide
  rw [e]
  unfold sgh
  simp only [Int.toNat_natCast]
  split <;> split <;> omega
theorem fit32 (s : Int) (h : FitB s 32 = false) : s < -2147483648 ∨ 2147483648 ≤ s := by
  rw [fit_mid s 32 (by omega) (by omega)] at h
  have e : (2 : Nat) ^ ((32 : Int).toNat - 1) = 2147483648 := by decide
  rw [e] at h
  simp only [Bool.and_eq_false_iff, decide_eq_false_iff_not] at h
  omega
theorem fit32' (s : Int) (h : -2147483648 ≤ s ∧ s < 2147483648) : FitB s 32 = true := by
  cases hf : FitB s 32 with
  | true => rfl
  | false => have := fit32 s hf; omega
theorem up_in (v : Int) : 0 ≤ upI v ∧ upI v < 18446744073709551616 := by unfold upI; rw [IntKind.wrap_u64]; omega
theorem hi_in (v : Int) : 0 ≤ hiI v ∧ hiI v < 18446744073709551616 := by unfold hiI; rw [IntKind.wrap_u64]; omega
/-- The next number is some 4096 times smaller. -/
theorem hi_small (v B : Int) (h0 : 0 ≤ v) (h1 : v < 18446744073709551616) (hB : -B ≤ wrap64 v ∧ wrap64 v ≤ B) (hB2 : B ≤ 9223372036854775808) (hB3 : 4096 ≤ B) : -(B / 2048) ≤ wrap64 (hiI v) ∧ wrap64 (hiI v) ≤ B / 2048 := by
  have hs := sgn12 v h0 h1
  have e1 : wrap64 (hiI v) = wrap64 (upI v) / 4096 := by
    have := wrap64_r (upI v)
    unfold hiI
    rw [IntKind.wrap_u64]
    unfold wrap64 at this ⊢
    omega
  rw [e1]
  have e2 : upI v = (v - Sgn v 12) % 18446744073709551616 := by unfold upI; rw [IntKind.wrap_u64]
  rw [e2]
  unfold wrap64 at hB ⊢
  split at hs <;> rw [hs] <;> omega
theorem lvl_all (v : Int) (h0 : 0 ≤ v) (h1 : v < 18446744073709551616) : lvl 3 v := by
  have r0 := wrap64_r v
  have b1 := hi_small v 9223372036854775808 h0 h1 (by omega) (by omega) (by omega)
  have i1 := hi_in v
  have b2 := hi_small (hiI v) 4503599627370496 i1.1 i1.2 (by omega) (by omega) (by omega)
  have i2 := hi_in (hiI v)
  have b3 := hi_small (hiI (hiI v)) 2199023255552 i2.1 i2.2 (by omega) (by omega) (by omega)
  have f3 : FitB (wrap64 (hiI (hiI (hiI v)))) 32 = true := fit32' _ (by omega)
  exact .inr (.inr (.inr f3))
end Go.Proofs.YtnooabgdcfegeaaDoor
end
section
namespace Go.Proofs.YtnooabgdcfegeaaDoor
open Go.RowKit
set_option linter.unusedVariables false

/-- The world has at most new blocks and draws. -/
def Nw (w w' : World) : Prop := Below w.heap.size w w' ∧ Grown w w'
theorem Nw.refl (w : World) : Nw w w := ⟨Below.refl _ _, Grown.refl _⟩
theorem Nw.trans {a b c : World} (h : Nw a b) (k : Nw b c) : Nw a c :=
  ⟨h.1.trans (k.1.mono h.1.size), ⟨World.keptBut_trans h.2.1 (World.keptBut_mono (fun _ f => f.elim) k.2.1), fun x => (k.2.2.1 x).trans (h.2.2.1 x), Nat.le_trans h.2.2.2 k.2.2.2⟩⟩
theorem Nw.alloc {a b : World} (h : Nw a b) (c : Array Value) (t : TypeId) : Nw a (b.alloc (.cells c t)) :=
  ⟨h.1.alloc h.1.size _, h.2.alloc c t⟩
theorem Nw.setCell {a b : World} (h : Nw a b) {p : Addr} (hp : a.heap.size ≤ p.block) (u : Value) : Nw a (b.setCell p u) :=
  ⟨h.1.setCell hp u, h.2.setCell hp u⟩
theorem Nw.drew {a b : World} (h : Nw a b) : Nw a b.drew := ⟨h.1.drew, h.2⟩
theorem Nw.drewN {a b : World} (h : Nw a b) (n : Nat) : Nw a (b.drewN n) := ⟨below_drewN h.1 n, h.2⟩
theorem Nw.size {a b : World} (h : Nw a b) : a.heap.size ≤ b.heap.size := h.1.size
theorem Nw.cells {a b : World} (h : Nw a b) : ∀ k o, k < a.heap.size → b.cell? ⟨k, o, none⟩ = a.cell? ⟨k, o, none⟩ := fun k o hk => h.1.cell (p := ⟨k, o, none⟩) hk
end Go.Proofs.YtnooabgdcfegeaaDoor
end

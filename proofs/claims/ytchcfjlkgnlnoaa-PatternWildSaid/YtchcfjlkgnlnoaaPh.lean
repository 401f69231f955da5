/-
  Proved here: whether a test fits, the code's. Conditions: the memory holds the value and the path.
-/
import Derived.Test.YtchcfjlkgnlnoaaPg
namespace Go.Proofs.Ytchcfjlkgnlnoaa
open Go.RowKit Go.ChangeMaps
set_option linter.unusedVariables false
set_option linter.unusedSimpArgs false
set_option maxRecDepth 100000
set_option maxHeartbeats 4000000
/-- Whether a part is what a test asks for. -/
def fitP (k n xk xn : Int) (L : Nat) : Bool := if k = 2 then decide (xk = 1) && decide (xn = n) else if k = 3 then decide (xk = 2) && decide (xn = n) else if k = 5 then decide (xk = 4) && decide ((L : Int) = n) else false
def fitO (k n : Int) : Option Vl → Bool
  | none => false
  | some x => fitP k n x.kind x.n x.args.length
def Ts.fits (t : Ts) (v : Vl) : Bool := fitO t.kind t.n (v.atP t.path)
theorem Fits_any (W0 : World) (v : Vl) (hv : v.Has W0) (t : Ts) (pv : Value) (hp : IntR W0 pv t.path) (w : World) (hw : Nb W0 w) :
    Calls Try.prog 21 #[.agg #[pv, .int .i64 t.kind, .int .i64 t.n], .agg v.cells.toArray] w fun r w' => r = .returned (.bool (t.fits v)) ∧ Nb w w' := by
  have hat := fun W h => At_any W0 v hv pv t.path hp W h
  obtain ⟨T, hT⟩ : ∃ T, v.atP t.path = T := ⟨_, rfl⟩
  obtain ⟨RR, hRR⟩ : ∃ RR, t.fits v = RR := ⟨_, rfl⟩
  rw [hRR]
  unfold Ts.fits at hRR
  rw [hT] at hRR hat
  have hxh := fun x h => atP_has t.path v x hv (hT.trans h)
  obtain ⟨A2, c2, rfl, -, -, -⟩ := hp.head
  rw [List.length_map] at hat ⊢
  obtain ⟨N, hN⟩ : ∃ N, t.path.length = N := ⟨_, rfl⟩
  rw [hN] at hat ⊢
  obtain ⟨A, L, c, hL, hav, hcs⟩ := vl_lit hv
  rw [hcs] at hat ⊢
  obtain ⟨vk, hvk⟩ : ∃ k, v.kind = k := ⟨_, rfl⟩
  obtain ⟨vn, hvn⟩ : ∃ k, v.n = k := ⟨_, rfl⟩
  rw [hvk, hvn] at hat ⊢
  obtain ⟨k, hk⟩ : ∃ k, t.kind = k := ⟨_, rfl⟩
  obtain ⟨n, hn⟩ : ∃ k, t.n = k := ⟨_, rfl⟩
  rw [hk, hn] at hRR ⊢
  clear hk hn hvk hvn hcs hav hL hN hp hv hT
  replace hat := Lib.hid hat
  have hb : ∀ (xk xn : Int) (B : Option Addr) (M d : Nat) (there : Bool), Hid (∀ W, Nb W0 W → Calls Try.prog 18 #[.agg #[.int .i64 vk, .int .i64 vn, .slice A L c], .slice A2 N c2] W fun r w' => r = .returned (.tuple #[.agg #[.int .i64 xk, .int .i64 xn, .slice B M d], .bool there]) ∧ Nb W w') →
      (if there then fitP k n xk xn M else false) = RR →
      Calls Try.prog 21 #[.agg #[.slice A2 N c2, .int .i64 k, .int .i64 n], .agg #[.int .i64 vk, .int .i64 vn, .slice A L c]] w fun r w' => r = .returned (.bool RR) ∧ Nb w w' := by
    intro xk xn B M d there hcall hR
    clear hRR hxh hat
    go_enter Try.func21, Try.ntmps21
    go_upto_region 1 with (fail)
    obtain ⟨W1, hW1⟩ : ∃ W1, (w.alloc (Obj.cells #[.slice A2 N c2, .int .i64 k, .int .i64 n] 28)).alloc (Obj.cells #[.int .i64 vk, .int .i64 vn, .slice A L c] 31) = W1 := ⟨_, rfl⟩
    have n1 : Nb w W1 := by rw [← hW1]; exact ((Nb.refl w).alloc _).alloc _
    have b0 : W1.heap[w.heap.size]? = some (.cells #[.slice A2 N c2, .int .i64 k, .int .i64 n] 28 (0, 0)) := by rw [← hW1]; exact old_blk (new_blk _ _ rfl) _
    have b1 : W1.heap[w.heap.size + 1]? = some (.cells #[.int .i64 vk, .int .i64 vn, .slice A L c] 31 (0, 0)) := by rw [← hW1]; exact new_blk _ _ (by simp)
    rw [hW1]
    clear hW1
    obtain ⟨Q, hQ⟩ : ∃ Q, w.heap.size + 1 = Q := ⟨_, rfl⟩
    rw [hQ] at b1 ⊢
    obtain ⟨P', hP'⟩ : ∃ P', w.heap.size = P' := ⟨_, rfl⟩
    rw [hP'] at b0 ⊢
    clear hQ hP'
    have q0 := cell_of_row _ _ 0 _ _ _ b1
    have q1 := cell_of_row _ _ 1 _ _ _ b1
    have q2 := cell_of_row _ _ 2 _ _ _ b1
    have p0 := cell_of_row _ _ 0 _ _ _ b0
    have hcall2 := Lib.hid (hcall.out W1 (hw.trans n1))
    go_upto_region 2 with (go_at_call 18; refine (hcall2.out).mono ?_; rintro r w2 ⟨rfl, n2⟩)
    obtain ⟨W3, hW3⟩ : ∃ W3, w2.alloc (Obj.cells #[.int .i64 xk, .int .i64 xn, .slice B M d] 31) = W3 := ⟨_, rfl⟩
    have n3 : Nb w2 W3 := by rw [← hW3]; exact (Nb.refl w2).alloc _
    have b3 : W3.heap[w2.heap.size]? = some (.cells #[.int .i64 xk, .int .i64 xn, .slice B M d] 31 (0, 0)) := by rw [← hW3]; exact new_blk _ _ rfl
    rw [hW3]
    clear hW3
    obtain ⟨S, hS⟩ : ∃ S, w2.heap.size = S := ⟨_, rfl⟩
    rw [hS] at b3 ⊢
    clear hS
    have bT := n3.block (n2.block b0)
    have nn := Lib.hid (n1.trans (n2.trans n3))
    have t1 := cell_of_row _ _ 1 _ _ _ bT
    have t2 := cell_of_row _ _ 2 _ _ _ bT
    have s0 := cell_of_row _ _ 0 _ _ _ b3
    have s1 := cell_of_row _ _ 1 _ _ _ b3
    have s2 := cell_of_row _ _ 2 _ _ _ b3
    clear q0 q1 q2 p0 b0 b1 bT b3 n1 n2 n3 hcall hcall2
    cases there with
    | false =>
      replace hR : false = RR := hR
      subst hR
      go_wp2_with fail
      go_ret
      exact ⟨rfl, nn.out⟩
    | true =>
      replace hR : fitP k n xk xn M = RR := hR
      unfold fitP at hR
      by_cases k2 : k = 2
      · rw [if_pos k2] at hR
        subst k2
        by_cases e1 : xk = 1
        · by_cases e2 : xn = n
          · have hRR : true = RR := by rw [← hR]; simp [e1, e2]
            subst hRR
            clear hR
            go_wp2_with fail
            go_ret
            exact ⟨rfl, nn.out⟩
          · have hRR : false = RR := by rw [← hR]; simp [e1, e2]
            subst hRR
            clear hR
            go_wp2_with fail
            go_ret
            exact ⟨retB (a := (xn == n)) (b := false) (by simpa using e2), nn.out⟩
        · have hRR : false = RR := by rw [← hR]; simp [e1]
          subst hRR
          clear hR
          go_wp2_with fail
          go_ret
          exact ⟨rfl, nn.out⟩
      · rw [if_neg k2] at hR
        by_cases k3 : k = 3
        · rw [if_pos k3] at hR
          subst k3
          by_cases e1 : xk = 2
          · by_cases e2 : xn = n
            · have hRR : true = RR := by rw [← hR]; simp [e1, e2]
              subst hRR
              clear hR
              go_wp2_with fail
              go_ret
              exact ⟨rfl, nn.out⟩
            · have hRR : false = RR := by rw [← hR]; simp [e1, e2]
              subst hRR
              clear hR
              go_wp2_with fail
              go_ret
              exact ⟨retB (a := (xn == n)) (b := false) (by simpa using e2), nn.out⟩
          · have hRR : false = RR := by rw [← hR]; simp [e1]
            subst hRR
            clear hR
            go_wp2_with fail
            go_ret
            exact ⟨rfl, nn.out⟩
        · rw [if_neg k3] at hR
          by_cases k5 : k = 5
          · rw [if_pos k5] at hR
            subst k5
            by_cases e1 : xk = 4
            · by_cases e2 : (M : Int) = n
              · have hRR : true = RR := by rw [← hR]; simp [e1, e2]
                subst hRR
                clear hR
                go_wp2_with fail
                go_ret
                exact ⟨rfl, nn.out⟩
              · have hRR : false = RR := by rw [← hR]; simp [e1, e2]
                subst hRR
                clear hR
                go_wp2_with fail
                go_ret
                exact ⟨retB (a := ((M : Int) == n)) (b := false) (by simpa using e2), nn.out⟩
            · have hRR : false = RR := by rw [← hR]; simp [e1]
              subst hRR
              clear hR
              go_wp2_with fail
              go_ret
              exact ⟨rfl, nn.out⟩
          · rw [if_neg k5] at hR
            subst hR
            go_wp2_with fail
            go_ret
            exact ⟨rfl, nn.out⟩
  cases T with
  | none => exact hb 0 0 none 0 0 false hat hRR
  | some x =>
    obtain ⟨Ax, Lx, cx, hLx, hax, hcx⟩ := vl_lit (hxh x rfl)
    refine hb x.kind x.n Ax Lx cx true (Lib.hid fun W hW => ?_) (by rw [← hRR]; show fitP k n x.kind x.n Lx = fitP k n x.kind x.n x.args.length; rw [hLx])
    have h := hat.out W hW
    unfold atR at h
    rw [← hcx]
    exact h
end Go.Proofs.Ytchcfjlkgnlnoaa

/-
  Proved here: values of one shape are the same, the reference's. Conditions: none.
-/
import Derived.Test.YtmoggaecnjcjfaaXh
import Derived.Lib.QuietBelow
namespace Go.Proofs.Ytmoggaecnjcjfaa
open Go.Sort Go.RowKit Go.ChangeMaps Go.ChangeShapes Go.WideShapes Go.ChangeAt Go.Joins
set_option linter.unusedVariables false
set_option linter.unusedSimpArgs false
set_option maxRecDepth 100000
set_option maxHeartbeats 4000000
theorem regrown_nbS {P : Program} {f : FuncId} {args : Array Value} {w : World} {d : Nat} {os : Array Obj} {v : Value}
    (h : Calls P f args (grow (redrawn w d) os) fun e w' => e = .returned v ∧ Nb (grow (redrawn w d) os) w') : Calls P f args (grow (redrawn w d) os) fun e w'' => e = .returned v ∧ ∃ p : Regrown, w'' = grow (redrawn w p.d) p.os :=
  Calls.regrown_of h
theorem sh_parts {a b : Vl} (h : a.sh = b.sh) : a.kind = b.kind ∧ a.n = b.n ∧ a.args.length = b.args.length ∧ ∀ (i : Nat) (x y : Vl), a.args[i]? = some x → b.args[i]? = some y → x.sh = y.sh := by
  rw [Vl.sh_eq, Vl.sh_eq] at h
  simp only [Pv.mk.injEq] at h
  obtain ⟨h1, h2, h3⟩ := h
  refine ⟨h1, h2, by simpa using congrArg List.length h3, fun i x y hx hy => ?_⟩
  have := congrArg (fun l => l[i]?) h3
  simpa [List.getElem?_map, hx, hy] using this
theorem rsame_sh (W0 : World) : ∀ (a : Vl), a.Has W0 → ∀ b : Vl, b.Has W0 → a.sh = b.sh → ∀ w, Nb W0 w →
    Calls Try.prog 10 #[.agg a.cells.toArray, .agg b.cells.toArray] w fun r w' => r = .returned (.bool true) ∧ Nb w w' := by
  intro a
  induction a using Vl.ind with
  | h a ih =>
    intro ha b hb hab w hw
    obtain ⟨hk, hn, hlen2, hsh⟩ := sh_parts hab
    obtain ⟨A, c, hav, hcap, hlen, hA⟩ := ha.vls.head
    obtain ⟨A2, c2, hbv, hcap2, -, -⟩ := hb.vls.head
    rw [← hlen2] at hbv hcap2
    have hX := Lib.hid (show VlsHas W0 (.slice A a.args.length c) a.args by rw [← hav]; exact ha.vls)
    have hY := Lib.hid (show VlsHas W0 (.slice A2 a.args.length c2) b.args by rw [← hbv]; exact hb.vls)
    have hcs : a.cells.toArray = #[.int .i64 a.kind, .int .i64 a.n, .slice A a.args.length c] := by rw [← hav]; rfl
    have hct : b.cells.toArray = #[.int .i64 a.kind, .int .i64 a.n, .slice A2 a.args.length c2] := by rw [← hbv, hk, hn]; rfl
    rw [hcs, hct]
    clear hcs hct hk hn
    obtain ⟨N, hN⟩ : ∃ N, a.args.length = N := ⟨_, rfl⟩
    have hNh := Lib.hid hN
    have hNb := Lib.hid hlen2
    rw [hN] at hcap hcap2 hlen hX hY hav hbv ⊢
    obtain ⟨ka, hka⟩ : ∃ k, a.kind = k := ⟨_, rfl⟩
    obtain ⟨na, hna⟩ : ∃ k, a.n = k := ⟨_, rfl⟩
    rw [hka, hna]
    replace hsh := Lib.hid hsh
    clear hN hav hbv hka hna hlen2 hab
    go_enter Try.func10, Try.ntmps10
    go_upto_region 1 with (fail)
    obtain ⟨W1, hW⟩ : ∃ W1, (w.alloc (Obj.cells #[.int .i64 ka, .int .i64 na, .slice A N c] 24)).alloc (Obj.cells #[.int .i64 ka, .int .i64 na, .slice A2 N c2] 24) = W1 := ⟨_, rfl⟩
    have n1 : Nb w W1 := by rw [← hW]; exact ((Nb.refl w).alloc _).alloc _
    have bA : W1.heap[w.heap.size]? = some (.cells #[.int .i64 ka, .int .i64 na, .slice A N c] 24 (0, 0)) := by rw [← hW]; exact old_blk (new_blk _ _ rfl) _
    have bB : W1.heap[w.heap.size + 1]? = some (.cells #[.int .i64 ka, .int .i64 na, .slice A2 N c2] 24 (0, 0)) := by rw [← hW]; exact new_blk _ _ (by simp)
    rw [hW]
    clear hW
    obtain ⟨D, hD⟩ : ∃ D, w.heap.size + 1 = D := ⟨_, rfl⟩
    obtain ⟨B, hB⟩ : ∃ B, w.heap.size = B := ⟨_, rfl⟩
    rw [hD] at bB ⊢
    rw [hB] at bA ⊢
    clear hB hD
    have a0 := cell_of_row _ _ 0 _ _ _ bA
    have a1 := cell_of_row _ _ 1 _ _ _ bA
    have a2 := cell_of_row _ _ 2 _ _ _ bA
    have b0 := cell_of_row _ _ 0 _ _ _ bB
    have b1 := cell_of_row _ _ 1 _ _ _ bB
    have b2 := cell_of_row _ _ 2 _ _ _ bB
    have hw1 := hw.trans n1
    go_wp2_with fail
    go_loopw [5] (fun si wr => ∃ i : Nat, i ≤ N ∧ si = .int .i64 i ∧ Nb W1 wr) (fun si _ => N - (intOf si).toNat)
    case atStart => exact ⟨0, Nat.zero_le _, rfl, Nb.refl _⟩
    case round =>
      obtain ⟨i, hi, rfl, hg⟩ := hrel
      replace a2 := hg.cell a2
      replace b2 := hg.cell b2
      by_cases hlt : i < N
      · have hlt2 : (i : Int) < (N : Int) := by omega
        obtain ⟨x, hx⟩ : ∃ x, a.args[i]? = some x := ⟨_, List.getElem?_eq_getElem (by rw [hNh.out]; exact hlt)⟩
        obtain ⟨y, hy⟩ : ∃ y, b.args[i]? = some y := ⟨_, List.getElem?_eq_getElem (by rw [← hNb.out, hNh.out]; exact hlt)⟩
        obtain ⟨b', o', rfl, ⟨y0, y1, y2⟩, hxh⟩ := hX.out.at_ hx
        obtain ⟨b'', o'', rfl, ⟨z0, z1, z2⟩, hyh⟩ := hY.out.at_ hy
        have hnb := hw1.trans hg
        obtain ⟨Ax, cx, hax, -, -, -⟩ := hxh.vls.head
        obtain ⟨Lx, hLx⟩ : ∃ Lx, x.args.length = Lx := ⟨_, rfl⟩
        rw [hLx] at hax
        clear hLx
        obtain ⟨Ay, cy, hay, -, -, -⟩ := hyh.vls.head
        obtain ⟨Ly, hLy⟩ : ∃ Ly, y.args.length = Ly := ⟨_, rfl⟩
        rw [hLy] at hay
        clear hLy
        have hcx : x.cells.toArray = #[.int .i64 x.kind, .int .i64 x.n, .slice Ax Lx cx] := by rw [← hax]; rfl
        have hcy : y.cells.toArray = #[.int .i64 y.kind, .int .i64 y.n, .slice Ay Ly cy] := by rw [← hay]; rfl
        rw [hax] at y2
        rw [hay] at z2
        clear hax hay
        have hcall : Hid (∀ W', Nb wr W' → Calls Try.prog 10 #[.agg #[.int .i64 x.kind, .int .i64 x.n, .slice Ax Lx cx], .agg #[.int .i64 y.kind, .int .i64 y.n, .slice Ay Ly cy]] W' (fun r w' => r = .returned (.bool true) ∧ Nb W' w')) := Lib.hid (fun W' n' => by
          rw [← hcx, ← hcy]
          exact ih x (List.mem_of_getElem? hx) hxh y hyh (hsh.out i x y hx hy) W' (hnb.trans n'))
        have d0 := cell_regrown (hnb.cell y0)
        have d1 := cell_regrown (hnb.cell y1)
        have d2 := cell_regrown (hnb.cell y2)
        have d3 := cell_regrown (hnb.cell z0)
        have d4 := cell_regrown (hnb.cell z1)
        have d5 := cell_regrown (hnb.cell z2)
        have d6 := cell_regrown a2
        have d7 := cell_regrown b2
        clear y0 y1 y2 z0 z1 z2 hcx hcy hx hy hxh hyh ih hnb
        go_upto_region 6 with (fail)
        clear a2 b2
        have hcall2 := Lib.hid (fun (d : Nat) (os : Array Obj) => hcall.out (grow (redrawn wr d) os) (below_regrown wr d os))
        refine wp_region_quiet_below (by kernel_rfl) (by kernel_rfl) ?_
        repeat (quiet_step ((first | (go_at_call 10; with_reducible exact regrown_nbS (hcall2.out _ _)))))
        refine wpQuiet_nil ?_
        intro w4 hw'
        obtain ⟨⟨dq, osq⟩, hw''⟩ := hw'
        have n4 : Nb wr w4 := by rw [hw'']; exact below_regrown wr dq osq
        clear hw'' d0 d1 d2 d3 d4 d5 d6 d7
        go_wp2_with fail
        exact ⟨⟨i + 1, by omega, by simp, hg.trans n4⟩, by simp [intOf] <;> omega⟩
      · obtain rfl : i = N := by omega
        have hlt2 : ¬ (i : Int) < (i : Int) := by omega
        go_wp2_with fail
        go_ret
        exact ⟨rfl, n1.trans hg⟩
end Go.Proofs.Ytmoggaecnjcjfaa

/-
  Proved here: code without names is that of its parts, one behind the other, by the code's Assemble. No condition.
-/
import Derived.Test.YtnooabgdcfegeaaDoorSbv
import Derived.Laws.AppendOwnNone
import Derived.Test.YtnooabgdcfegeaaDoorCards
import Derived.Test.YtnooabgdcfegeaaDoorTie
import Derived.SevenTiedAt
namespace Go.Proofs.YtnooabgdcfegeaaDoor.codeParts
open Go.ChangeShapes Go.WideShapes Go.ChangeAt Go.RowKit Go.Shelf Go.ChangeMaps
set_option linter.unusedVariables false
set_option linter.unusedSimpArgs false
set_option maxRecDepth 100000
set_option maxHeartbeats 8000000
attribute [local go_sem] Oper.semAt_some
/-- What an append takes: nothing, or cells at an address. -/
def SrcR (w : World) (v : Value) (m size : Nat) (news : List Value) : Prop :=
  (v = .slice none 0 0 ∧ m = 0 ∧ news = []) ∨ ∃ (ad : Addr) (c : Nat), v = .slice (some ad) m c ∧ news.length = m * size ∧ (∀ (j : Nat) (u : Value), news[j]? = some u → w.cell? (ad.add j) = some u) ∧ (∀ u ∈ news, u.oneCell' = true)
theorem wpList_append_src {P : Program} {w : World} {ops : Array Oper} {rest : List Oper} {o : Oper} {a : Act} {Q : Exit → Act → World → Prop} (hgd : o.guard = none) (s x : Operand) (t : TypeId)
    (ho : o.op = .call { callee := .builtin .append, args := #[s, x], argTypes := #[t, t] })
    (base : Nat) (e : TypeId) (i : TypeInfo) (z : Value) (size bytes : Nat) (ht : P.underlying t = some (.slice e)) (hi : P.info? e = some i) (hz : i.zero = some z)
    (hsize : i.size = size) (hby : i.bytes = bytes) (hzs : z.cells.size = size) (hsz : 0 < size)
    (v : Value) (n : Nat) (xs : List Value) (hs : a.eval s = v) (hown : w.ownsRow base e size v n xs)
    (sv : Value) (m : Nat) (news : List Value) (hx : a.eval x = sv) (hsrc : SrcR w sv m size news)
    (h63 : n + m ≤ maxLen) (hbytes : (n + m) * bytes ≤ 140737488355328) (hbase : base ≤ w.heap.size)
    (h : ∀ v' w', w'.ownsRow base e size v' (n + m) (xs ++ news) → w.grownBy w' v.ownBlock → wpList P ops Q rest (a.put o.dst v') w') : wpList P ops Q (o :: rest) a w := by
  rcases hsrc with ⟨rfl, rfl, rfl⟩ | ⟨ad, c, rfl, hl, hn, h1⟩
  · refine wpList_append_own_none hgd s x t ho base e i size ht hi v n xs hs hown hx (h v w (by simpa using hown) ?_)
    exact ⟨rfl, rfl, rfl, Nat.le_refl _, fun _ _ _ => rfl⟩
  · exact wpList_append_own _ hgd s x t ho base e i z size bytes ht hi hz hsize hby hzs hsz v n xs hs hown ad m c news hx hl hn h1 h63 hbytes hbase (fun v' w' h2 h3 _ => h v' w' h2 h3)
theorem flat_at {α : Type} {f : α → List Value} {s : Nat} {l : List α} (hf : ∀ x ∈ l, (f x).length = s) {i j : Nat} (hj : j < s) : (l.flatMap f)[i * s + j]? = l[i]?.bind fun x => (f x)[j]? := by
  induction l generalizing i with
  | nil => simp
  | cons x l ih =>
    have hx := hf x (by simp)
    rw [List.flatMap_cons]
    cases i with
    | zero => rw [List.getElem?_append_left (by omega)]; simp
    | succ i =>
      rw [List.getElem?_append_right (by rw [hx, Nat.succ_mul]; omega), hx, show (i + 1) * s + j - s = i * s + j by rw [Nat.succ_mul]; omega, ih (fun y hy => hf y (by simp [hy]))]
      simp
theorem flat_len {α : Type} {f : α → List Value} {s : Nat} {l : List α} (hf : ∀ x ∈ l, (f x).length = s) : (l.flatMap f).length = l.length * s := by
  induction l with
  | nil => simp
  | cons x l ih => rw [List.flatMap_cons, List.length_append, hf x (by simp), ih (fun y hy => hf y (by simp [hy])), List.length_cons, Nat.succ_mul, Nat.add_comm]
/-- Items that are instructions or constants. -/
def Plain (is : List Itm) : Prop := ∀ i ∈ is, i.1 = 1 ∨ i.1 = 6
def insK (i : Itm) : List In7 := insI i 0 0 false
theorem insK_eq {i : Itm} (h : i.1 = 1 ∨ i.1 = 6) (at_ to : Int) (f : Bool) : insI i at_ to f = insK i := by
  unfold insK insI
  rcases h with h | h <;> rw [h] <;> simp
def allK (is : List Itm) : List In7 := is.flatMap insK
theorem allK_app (a b : List Itm) : allK (a ++ b) = allK a ++ allK b := by unfold allK; rw [List.flatMap_append]
theorem lab_plain {is : List Itm} (h : Plain is) (f : Bs → Option Int) : labG is f = some f := by
  induction is generalizing f with
  | nil => rfl
  | cons i r ih =>
    have h1 := h i List.mem_cons_self
    rw [labG, if_neg (by rcases h1 with h1 | h1 <;> rw [h1] <;> decide)]
    exact ih (fun j hj => h j (List.mem_cons_of_mem _ hj)) f
theorem labI_plain {is : List Itm} (h : Plain is) : labI is = true := by
  unfold labI
  rw [lab_plain h]
  have : is.any (lostI fun _ => none) = false := by
    rw [List.any_eq_false]
    intro i hi
    have h1 := h i hi
    unfold lostI namesI
    rcases h1 with h1 | h1 <;> rw [h1] <;> simp
  show (!is.any (lostI fun _ => none)) = true
  rw [this]
  rfl
theorem wrong_plain {is : List Itm} (h : Plain is) (base : Int) : wrongI is base = if base % 4 ≠ 0 then 2 else if 1073741824 < base then 2 else if is.any badI = true then 20 else 0 := by
  unfold wrongI
  rw [labI_plain h, if_neg (c := true = false) (by decide)]
theorem sum_plain {is : List Itm} (h : Plain is) : wSum (is.zip (List.replicate is.length false)) = (allK is).length := by
  induction is with
  | nil => rfl
  | cons i r ih =>
    have := ih (fun j hj => h j (List.mem_cons_of_mem _ hj))
    rw [List.length_cons, List.replicate_succ, List.zip_cons_cons, wSum, this]
    unfold allK
    rw [List.flatMap_cons, List.length_append]
    rfl
theorem ins_plain {is : List Itm} (h : Plain is) (f : Bs → Option Int) (base : Int) : inL is (List.replicate is.length false) f (plcL base (is.zip (List.replicate is.length false))) = allK is := by
  have hl : (is.zip (List.replicate is.length false)).length = is.length := by simp
  unfold inL plcL
  rw [hl, List.flatMap_map]
  have h1 : ∀ k, k ∈ List.range is.length → inS is (List.replicate is.length false) f (k, base + 4 * (wSum ((is.zip (List.replicate is.length false)).take k) : Int)) = (is[k]?.map insK).getD [] := by
    intro k hk
    have hk' : k < is.length := List.mem_range.1 hk
    unfold inS
    simp only []
    rw [List.getElem?_eq_getElem hk', List.getElem?_replicate, if_pos hk']
    simp only [Option.map_some, Option.getD_some]
    exact insK_eq (h _ (List.getElem_mem hk')) _ _ _
  have h2 : (List.range is.length).flatMap (fun k => inS is (List.replicate is.length false) f (k, base + 4 * (wSum ((is.zip (List.replicate is.length false)).take k) : Int))) = (List.range is.length).flatMap fun k => (is[k]?.map insK).getD [] := by
    rw [List.flatMap_def, List.flatMap_def]
    congr 1
    exact List.map_congr_left h1
  rw [h2]
  unfold allK
  clear h1 h2 hl h
  induction is with
  | nil => rfl
  | cons i r ih =>
    rw [List.length_cons, List.range_succ_eq_map, List.flatMap_cons, List.flatMap_map, List.flatMap_cons]
    simp only [List.getElem?_cons_zero, Option.map_some, Option.getD_some, List.getElem?_cons_succ, Function.comp_def]
    rw [← ih]
theorem insK_one {i : Itm} (h : i.1 = 1) : (insK i).length = 1 := by unfold insK insI; rw [if_pos h]; rfl
theorem insK_len (i : Itm) : (insK i).length ≤ 8 := insI_len i 0 0 false
theorem len_lite {is : List Itm} (h : liteB is = true) : (allK is).length ≤ 3600 := by
  unfold liteB at h
  rw [Bool.and_eq_true, decide_eq_true_eq, decide_eq_true_eq] at h
  have h1 : (allK is).length ≤ is.length + 7 * oddN is := by
    clear h
    unfold allK oddN
    induction is with
    | nil => simp
    | cons i r ih =>
      rw [List.flatMap_cons, List.length_append, List.length_cons, List.countP_cons]
      by_cases e : i.1 = 1
      · have := insK_one e
        have e2 : (i.1 != 1) = false := by rw [e]; rfl
        rw [e2]
        simp only [Bool.false_eq_true, if_false]
        omega
      · have := insK_len i
        have e2 : (i.1 != 1) = true := by simpa using e
        rw [e2]
        simp only [if_true]
        omega
  omega
/-- What Assemble answers of such items: its error, and its words. -/
def errK (is : List Itm) (base : Int) : Int := if base % 4 ≠ 0 then 2 else if 1073741824 < base then 2 else if is.any badI = true then 20 else if (allK is).all okI = true then 0 else 191
def wdK (is : List Itm) : List Int := (allK is).map wdI
theorem w32_wd (l : List In7) : w32 l = (l.map wdI).map (Value.int .u32) := by unfold w32; rw [List.map_map]; rfl
theorem asm_plain {is : List Itm} {base : Int} {w w' : World} {r : Ending} (h : Plain is) (hl : (allK is).length ≤ 65536) (ha : AsmAns is base (List.replicate is.length false) w r w') :
    ∃ s t, r = .returned (.tuple #[s, t, .int .i64 (errK is base)]) ∧ Nb w w' ∧ (errK is base = 0 → w'.ownsRow w.heap.size 60 1 s (wdK is).length ((wdK is).map (Value.int .u32))) ∧ (errK is base ≠ 0 → s = .slice none 0 0) ∧ ∃ A n c, t = .slice A n c := by
  unfold AsmAns at ha
  rw [wrong_plain h, sum_plain h, ins_plain h] at ha
  have he : errK is base = if (if base % 4 ≠ 0 then (2 : Int) else if 1073741824 < base then 2 else if is.any badI = true then 20 else 0) ≠ 0 then (if base % 4 ≠ 0 then (2 : Int) else if 1073741824 < base then 2 else if is.any badI = true then 20 else 0) else if (allK is).all okI = true then 0 else 191 := by
    unfold errK
    repeat' split
    all_goals simp_all
  generalize (if base % 4 ≠ 0 then (2 : Int) else if 1073741824 < base then 2 else if is.any badI = true then 20 else 0) = E at ha he
  rcases ha with ⟨h1, rfl, hn⟩ | ⟨-, h1, -⟩ | ⟨h1, -, -, ⟨h2, s, t, rfl, hn, hr, ht⟩ | ⟨h2, rfl, hn⟩⟩
  · rw [if_pos h1] at he
    rw [he]
    exact ⟨_, _, rfl, hn, fun h => absurd h h1, fun _ => rfl, _, _, _, rfl⟩
  · omega
  · rw [if_neg (by simpa using h1), if_pos h2] at he
    rw [he]
    refine ⟨s, t, rfl, hn, fun _ => ?_, fun h => absurd rfl h, ?_⟩
    · unfold wdK
      rw [List.length_map, ← w32_wd]
      exact hr
    · obtain ⟨A, c, rfl⟩ := row_sl ht
      exact ⟨_, _, _, rfl⟩
  · rw [if_neg (by simpa using h1), if_neg (by rw [h2]; decide)] at he
    rw [he]
    exact ⟨_, _, rfl, hn, fun h => absurd h (by decide), fun _ => rfl, _, _, _, rfl⟩
theorem errK_app {a b : List Itm} {base : Int} (h0 : 0 ≤ base) (hl : (allK a).length ≤ 65536) (ha : errK a base = 0) : base + 4 * ((wdK a).length : Int) ≤ 1073741824 + 262144 ∧ base ≤ 1073741824 ∧ (errK b (base + 4 * ((wdK a).length : Int)) = errK (a ++ b) base ∨ 536870912 < base) := by
  have hw : (wdK a).length = (allK a).length := List.length_map _
  unfold errK at ha
  split at ha
  · cases ha
  · rename_i h4
    split at ha
    · cases ha
    · rename_i hh
      split at ha
      · cases ha
      · rename_i hb
        split at ha
        · rename_i hok
          refine ⟨by omega, by omega, ?_⟩
          by_cases hbig : 1073741824 < base + 4 * ((wdK a).length : Int)
          · right; omega
          · left
            unfold errK
            rw [if_neg (c := (base + 4 * ((wdK a).length : Int)) % 4 ≠ 0) (by omega), if_neg hbig, if_neg h4, if_neg hh, List.any_append, allK_app, List.all_append, hok]
            have hb' : a.any badI = false := by simpa using hb
            rw [hb', Bool.false_or, Bool.true_and]
        · cases ha
theorem wdK_app (a b : List Itm) : wdK (a ++ b) = wdK a ++ wdK b := by unfold wdK; rw [allK_app, List.map_append]
theorem itm_len (i : Itm) : (itmC i).length = 10 := rfl
theorem one_itm (i : Itm) : ∀ u ∈ itmC i, u.oneCell' = true := fun u hu => by
  unfold itmC i7C at hu
  simp only [List.cons_append, List.nil_append, List.mem_cons, List.not_mem_nil, or_false] at hu
  rcases hu with rfl | rfl | rfl | rfl | rfl | rfl | rfl | rfl | rfl | rfl <;> rfl
theorem src_items {w : World} {v : Value} {is : List Itm} (h : RowS w 10 v (is.map itmC)) : SrcR w v is.length 10 (is.flatMap itmC) := by
  obtain ⟨A, cap, rfl, hc, hl, hn, hr⟩ := h
  rw [List.length_map] at hc hl ⊢
  cases A with
  | none =>
    have := hn rfl
    have h0 : is.length = 0 := by omega
    have e : is = [] := List.length_eq_zero_iff.1 h0
    subst e
    subst this
    exact .inl ⟨rfl, rfl, rfl⟩
  | some ad =>
    refine .inr ⟨ad, cap, rfl, flat_len (fun i _ => itm_len i), fun j u hu => ?_, fun u hu => ?_⟩
    · obtain ⟨i, k, rfl, hk⟩ : ∃ i k, j = i * 10 + k ∧ k < 10 := ⟨j / 10, j % 10, by omega, by omega⟩
      rw [flat_at (fun i _ => itm_len i) hk] at hu
      obtain ⟨x, hx, hu⟩ := Option.bind_eq_some_iff.1 hu
      obtain ⟨b, o, hA, hcell⟩ := hr i (itmC x) (by rw [List.getElem?_map, hx]; rfl)
      cases hA
      have := hcell k u hu
      rwa [show o + i * 10 + k = o + (i * 10 + k) by omega, ← show Addr.add ⟨b, o, none⟩ (i * 10 + k) = ⟨b, o + (i * 10 + k), none⟩ by first | rfl | simp [Addr.add]] at this
    · obtain ⟨i, -, hi⟩ := List.mem_flatMap.1 hu
      exact one_itm i u hi
theorem src_words {w : World} {base : Nat} {v : Value} {xs : List Int} (h : w.ownsRow base 60 1 v xs.length (xs.map (Value.int .u32))) : SrcR w v xs.length 1 (xs.map (Value.int .u32)) := by
  rcases h.2 with ⟨rfl, h0⟩ | ⟨g, cap, cur, rfl, hb, hg, hc, hm, hsz, ht⟩
  · have e : xs = [] := List.length_eq_zero_iff.1 h0
    subst e
    exact .inl ⟨rfl, rfl, rfl⟩
  · refine .inr ⟨_, cap, rfl, by simp, fun j u hu => ?_, fun u hu => ?_⟩
    · have e : Addr.add ⟨g, 0, none⟩ j = ⟨g, j, none⟩ := by first | (simp [Addr.add]; done) | (simp [Addr.add]; omega)
      rw [e, cell_of_row _ _ _ _ _ _ hg, ← Array.getElem?_toList]
      rw [← ht, List.getElem?_take] at hu
      split at hu
      · exact hu
      · cases hu
    · obtain ⟨x, -, rfl⟩ := List.mem_map.1 hu
      rfl
theorem row_items {w : World} {base : Nat} {v : Value} {is : List Itm} (h : w.ownsRow base 39 10 v is.length (is.flatMap itmC)) : ∃ (it : Option Addr) (b cap : Nat), v = .slice it is.length cap ∧ is.length ≤ cap ∧ (is ≠ [] → it = some ⟨b, 0, none⟩) ∧ ItAt w b 0 is := by
  rcases h.2 with ⟨rfl, h0⟩ | ⟨g, cap, cur, rfl, hb, hg, hc, hm, hsz, ht⟩
  · have e : is = [] := List.length_eq_zero_iff.1 h0
    subst e
    exact ⟨none, 0, 0, rfl, Nat.le_refl _, fun h => absurd rfl h, fun k i hk => by simp at hk⟩
  · refine ⟨_, g, cap, rfl, hc, fun _ => rfl, fun k i hk j u hu => ?_⟩
    have hj : j < 10 := by have := (List.getElem?_eq_some_iff.1 hu).1; rwa [itm_len] at this
    have h1 : (is.flatMap itmC)[k * 10 + j]? = some u := by rw [flat_at (fun i _ => itm_len i) hj, hk]; exact hu
    rw [Nat.zero_add, cell_of_row _ _ _ _ _ _ hg, ← Array.getElem?_toList]
    rw [← ht, List.getElem?_take] at h1
    split at h1
    · exact h1
    · cases h1
theorem info_itm : (Tryd.prog.info? 39).map (fun i => (i.size, i.bytes)) = some (10, 80) := by kernel_rfl
theorem info_itmz : (Tryd.prog.info? 39).map (fun i => i.zero) = some (some (.agg #[.int .i64 0, .int .i64 0, .int .i64 0, .int .i64 0, .int .i64 0, .int .i64 0, .bool false, .bool false, .string ByteArray.empty, .int .u64 0])) := by kernel_rfl
theorem parts_itm : ∃ i, Tryd.prog.info? 39 = some i ∧ i.zero = some (.agg #[.int .i64 0, .int .i64 0, .int .i64 0, .int .i64 0, .int .i64 0, .int .i64 0, .bool false, .bool false, .string ByteArray.empty, .int .u64 0]) ∧ i.size = 10 ∧ i.bytes = 80 := by
  obtain ⟨i0, hi, h⟩ := Option.map_eq_some_iff.1 info_itm
  obtain ⟨i1, hi1, h1⟩ := Option.map_eq_some_iff.1 info_itmz
  rw [hi] at hi1
  cases hi1
  exact ⟨i0, hi, h1, congrArg (·.1) h, congrArg (·.2) h⟩
theorem empty_row (w : World) : (w.alloc (.cells #[] 39)).ownsRow w.heap.size 39 10 (.slice (some ⟨w.heap.size, 0, none⟩) 0 0) 0 [] := World.ownsRow_lit w #[] 0 (Nat.le_refl _) (by decide) rfl
theorem rows_nb {a c : World} {s : Nat} {v : Value} {rows : List (List Value)} (h : RowS a s v rows) (hn : Nb a c) : RowS c s v rows := by
  obtain ⟨A, cap, h1, h2, h3, h4, h5⟩ := h
  refine ⟨A, cap, h1, h2, h3, h4, fun i r hi => ?_⟩
  obtain ⟨b, o, hA, hc⟩ := h5 i r hi
  exact ⟨b, o, hA, fun j u hu => hn.cell (hc j u hu)⟩
theorem app_nb {A B C : World} {g n c : Nat} (h : Nb A B) (hg : B.grownBy C (Value.slice (some ⟨g, 0, none⟩) n c).ownBlock) (hl : A.heap.size ≤ g) : Nb A C :=
  Below.grown (show Below A.heap.size A B from h) hg h.size (fun k hk => by simp [Value.ownBlock] at hk; omega)
theorem app_nb2 {A B C : World} {e : TypeId} {sz k : Nat} {v : Value} {xs : List Value} (h : Nb A B) (hr : B.ownsRow A.heap.size e sz v k xs) (hg : B.grownBy C v.ownBlock) : Nb A C := by
  refine Below.grown (show Below A.heap.size A B from h) hg h.size (fun j hj => ?_)
  rcases hr.2 with ⟨rfl, _⟩ | ⟨g, cap, cur, rfl, hb, _⟩
  · simp [Value.ownBlock] at hj
  · simp [Value.ownBlock] at hj
    omega
/-- What Assemble answers of items without names. -/
def AnsK (is : List Itm) (base : Int) (V : World) (r : Ending) (w' : World) : Prop :=
  ∃ S sn sc A n c, r = .returned (.tuple #[.slice S sn sc, .slice A n c, .int .i64 (errK is base)]) ∧ Nb V w' ∧ (errK is base = 0 → sn = (wdK is).length ∧ w'.ownsRow V.heap.size 60 1 (.slice S sn sc) (wdK is).length ((wdK is).map (Value.int .u32)))
theorem asm_at {it : Option Addr} {b off cap : Nat} {is : List Itm} (hit : is ≠ [] → it = some ⟨b, off, none⟩) (hcap : is.length ≤ cap) (hx : ∀ i ∈ is, ItmOk i) (hP : Plain is) (hl : is.length ≤ 100000) (hk : (allK is).length ≤ 65536) (base : Int) (h0 : 0 ≤ base) (h1 : base < 18446744073709551616) (V : World) (hC : Cod V) (hI : ItAt V b off is) :
    Calls Tryd.prog 7 #[.slice it is.length cap, .int .u64 base] V (AnsK is base V) := by
  refine (asm_none it b off cap base h0 h1 is hit hcap hl hx V hC hI (fun i hi => by rcases hP i hi with h | h <;> omega)).mono ?_
  intro r w' ha
  obtain ⟨s, t, rfl, hn, hr, hs, A, n, c, rfl⟩ := asm_plain hP hk ha
  by_cases he : errK is base = 0
  · have hr' := hr he
    obtain ⟨S, sc, rfl⟩ := row_sl hr'
    exact ⟨S, _, sc, A, n, c, rfl, hn, fun _ => ⟨rfl, hr'⟩⟩
  · rw [hs he]
    exact ⟨none, 0, 0, A, n, c, rfl, hn, fun h => absurd h he⟩
theorem asm_items {v : Value} {is : List Itm} {V : World} (hR : RowS V 10 v (is.map itmC)) (hx : ∀ i ∈ is, ItmOk i) (hP : Plain is) (hl : is.length ≤ 100000) (hk : (allK is).length ≤ 65536) (base : Int) (h0 : 0 ≤ base) (h1 : base < 18446744073709551616) (hC : Cod V) :
    Calls Tryd.prog 7 #[v, .int .u64 base] V (AnsK is base V) := by
  obtain ⟨it, b, off, cap, rfl, hc, -, hit, hI⟩ := items_at hR
  exact asm_at hit hc hx hP hl hk base h0 h1 V hC hI
theorem asm_row {base0 : Nat} {v : Value} {is : List Itm} {V : World} (hR : V.ownsRow base0 39 10 v is.length (is.flatMap itmC)) (hx : ∀ i ∈ is, ItmOk i) (hP : Plain is) (hl : is.length ≤ 100000) (hk : (allK is).length ≤ 65536) (base : Int) (h0 : 0 ≤ base) (h1 : base < 18446744073709551616) (hC : Cod V) :
    Calls Tryd.prog 7 #[v, .int .u64 base] V (AnsK is base V) := by
  obtain ⟨it, b, cap, rfl, hc, hit, hI⟩ := row_items hR
  exact asm_at hit hc hx hP hl hk base h0 h1 V hC hI
theorem row_grown {W W' : World} {base : Nat} {e : TypeId} {sz k : Nat} {v : Value} {xs : List Value} {row : Option Nat} (h : W.ownsRow base e sz v k xs) (hg : W.grownBy W' row) (hr : ∀ g, row = some g → g < base) : W'.ownsRow base e sz v k xs := by
  refine ⟨h.1, ?_⟩
  rcases h.2 with h' | ⟨g, cap, cur, rfl, hb, hgb, h'⟩
  · exact .inl h'
  · exact .inr ⟨g, cap, cur, rfl, hb, (hg.block g (Array.getElem?_eq_some_iff.1 hgb).1 (fun e => by have := hr g e.symm; omega)).trans hgb, h'⟩
theorem row_lt {W : World} {base : Nat} {e : TypeId} {sz k : Nat} {v : Value} {xs : List Value} (h : W.ownsRow base e sz v k xs) : ∀ g, v.ownBlock = some g → g < W.heap.size := by
  intro g hg
  rcases h.2 with ⟨rfl, _⟩ | ⟨g', cap, cur, rfl, hb, hgb, _⟩
  · simp [Value.ownBlock] at hg
  · have e : g' = g := by simpa [Value.ownBlock] using hg
    subst e
    exact (Array.getElem?_eq_some_iff.1 hgb).1
theorem walk (v0 : Value) (a : List Itm) (v1 : Value) (b : List Itm) (base : Int) (ha : ∀ i ∈ a, ItmOk i) (hb : ∀ i ∈ b, ItmOk i) (hw : 0 ≤ base ∧ base < 18446744073709551616) (W : World) (hC : Cod W) (hA : RowS W 10 v0 (a.map itmC)) (hB : RowS W 10 v1 (b.map itmC)) :
    Calls Tryd.prog 4 #[v0, v1, .int .u64 base] W fun e W' => e = .returned (.bool true) ∧ Nb W W' := by
  have hlives := Lib.hid (fun V (hV : Nb W V) => lives_any V (hC.of_nb hV))
  have hla := Lib.hid (fun V (hV : Nb W V) => by
    obtain ⟨ita, ba, offa, capa, e, hca, hla, hia, hIa⟩ := items_at hA
    have := light_any ita ba offa capa a hia hca hla V (hIa.nb hV)
    rwa [← e] at this)
  have hlb := Lib.hid (fun V (hV : Nb W V) => by
    obtain ⟨ita, ba, offa, capa, e, hca, hla, hia, hIa⟩ := items_at hB
    have := light_any ita ba offa capa b hia hca hla V (hIa.nb hV)
    rwa [← e] at this)
  cases hLA : liteB a
  case false =>
    rw [hLA] at hla
    clear hA hB hLA hlb
    go_enter Tryd.func4, Tryd.ntmps4
    go_wp2_with (first | (go_at_call 5; refine (hla.out W (Nb.refl _)).mono ?_; rintro r w2 ⟨rfl, hn2⟩; have hl2 := hlives.out w2 hn2) | (go_at_call 6; refine hl2.mono ?_; rintro r w3 ⟨rfl, hn3⟩))
    go_ret
    exact ⟨rfl, hn2.trans hn3⟩
  rw [hLA] at hla
  cases hLB : liteB b
  case false =>
    rw [hLB] at hlb
    obtain ⟨A0, n0, c0, rfl⟩ : ∃ A n c, v0 = .slice A n c := by obtain ⟨A, cap, rfl, -⟩ := hA; exact ⟨_, _, _, rfl⟩
    obtain ⟨A1, n1, c1, rfl⟩ : ∃ A n c, v1 = .slice A n c := by obtain ⟨A, cap, rfl, -⟩ := hB; exact ⟨_, _, _, rfl⟩
    clear hA hB hLA hLB
    go_enter Tryd.func4, Tryd.ntmps4
    go_wp2_with (first | (go_at_call 5; refine hlb2.mono ?_; rintro r w3 ⟨rfl, hn3⟩; have hl3 := hlives.out w3 (hn2.trans hn3)) | (go_at_call 5; refine (hla.out W (Nb.refl _)).mono ?_; rintro r w2 ⟨rfl, hn2⟩; have hlb2 := hlb.out w2 hn2) | (go_at_call 6; refine hl3.mono ?_; rintro r w4 ⟨rfl, hn4⟩))
    go_ret
    exact ⟨rfl, (hn2.trans hn3).trans hn4⟩
  rw [hLB] at hlb
  have hka := len_lite hLA
  have hkb := len_lite hLB
  have hna : a.length ≤ 3000 := by unfold liteB at hLA; rw [Bool.and_eq_true, decide_eq_true_eq] at hLA; exact hLA.1
  have hnb : b.length ≤ 3000 := by unfold liteB at hLB; rw [Bool.and_eq_true, decide_eq_true_eq] at hLB; exact hLB.1
  obtain ⟨ii, hi, hz0, hz1, hz2⟩ := parts_itm
  have hAh := Lib.hid hA
  have hBh := Lib.hid hB
  obtain ⟨A0, n0, c0, rfl⟩ : ∃ A n c, v0 = .slice A n c := by obtain ⟨A, cap, rfl, -⟩ := hA; exact ⟨_, _, _, rfl⟩
  obtain ⟨A1, n1, c1, rfl⟩ : ∃ A n c, v1 = .slice A n c := by obtain ⟨A, cap, rfl, -⟩ := hB; exact ⟨_, _, _, rfl⟩
  clear hA hB hLA hLB
  go_enter Tryd.func4, Tryd.ntmps4
  go_upto_region 3 with (first | (go_at_call 5; refine hlb2.mono ?_; rintro r w3 ⟨rfl, hn3⟩) | (go_at_call 5; refine (hla.out W (Nb.refl _)).mono ?_; rintro r w2 ⟨rfl, hn2⟩; have hlb2 := hlb.out w2 hn2))
  have n3 := hn2.trans hn3
  have hl3 := Lib.hid (hlives)
  obtain ⟨W4, hW4⟩ : ∃ W4, w3.alloc (.cells #[] 39) = W4 := ⟨_, rfl⟩
  have n4 : Nb w3 W4 := by rw [← hW4]; exact (Nb.refl _).alloc _
  have r4 : W4.ownsRow w3.heap.size 39 10 (.slice (some ⟨w3.heap.size, 0, none⟩) 0 0) 0 [] := by rw [← hW4]; exact empty_row w3
  have sA := src_items (rows_nb hAh.out (n3.trans n4))
  go_upto_region 4 with (first
    | (refine wpList_append_src rfl (.tmp 27) (.tmp 28) 22 rfl w3.heap.size 39 ii _ 10 80 Tryd.underlying22 hi hz0 hz1 hz2 rfl (by decide) _ 0 [] rfl r4 _ a.length (a.flatMap itmC) rfl sA (by unfold maxLen; omega) (by omega) n4.size ?_; intro v5 w5 r5 g5; have n5 : Nb w3 w5 := app_nb n4 g5 (Nat.le_refl _); have sB := src_items (rows_nb hBh.out (n3.trans n5)))
    | (refine wpList_append_src rfl (.tmp 29) (.tmp 30) 22 rfl w3.heap.size 39 ii _ 10 80 Tryd.underlying22 hi hz0 hz1 hz2 rfl (by decide) _ _ _ rfl r5 _ b.length (b.flatMap itmC) rfl sB (by unfold maxLen; omega) (by omega) n5.size ?_; intro v6 w6 r6 g6; obtain ⟨A6, c6, rfl⟩ := row_sl r6))
  have n6 : Nb w3 w6 := app_nb2 n5 r5 g6
  have nW := n3.trans n6
  have r6' : w6.ownsRow w3.heap.size 39 10 (.slice A6 (0 + a.length + b.length) c6) (a ++ b).length ((a ++ b).flatMap itmC) := by simpa using r6
  obtain ⟨N, hN⟩ : ∃ N, a.length + b.length = N := ⟨_, rfl⟩
  have hNl : (a ++ b).length = N := by rw [List.length_append, hN]
  rw [Nat.zero_add, hN] at r6'
  obtain ⟨itX, bX, cX, eX, hcX, hiX, hIX⟩ := row_items r6'
  rw [hNl] at eX hcX
  simp only [Value.slice.injEq] at eX
  obtain ⟨rfl, -, rfl⟩ := eX
  have hN6 : N ≤ 6000 := by omega
  have hsum : a.length + b.length = N := hN
  simp only [Nat.zero_add, hN]
  replace hNl := Lib.hid hNl
  replace hiX := Lib.hid hiX
  replace hIX := Lib.hid hIX
  clear hN r4 r5 g5 r6 r6' g6 sA sB n4 n5 hW4 hn2 hn3 hlb2 hl3 n3 hla hlb
  have hR0 : Hid (Nb w6 w6 ∧ ∀ i ∈ (a ++ b).take 0, i.1 = 1 ∨ i.1 = 6) := Lib.hid ⟨Nb.refl _, fun i hi => by cases hi⟩
  go_loopw [8, 33] (fun _ si wr => ∃ k : Nat, k ≤ N ∧ si = .int .i64 k ∧ Hid (Nb w6 wr ∧ ∀ i ∈ (a ++ b).take k, i.1 = 1 ∨ i.1 = 6)) (fun _ si _ => N - (intOf si).toNat)
  case atStart => exact ⟨0, Nat.zero_le _, rfl, hR0⟩
  case round =>
    obtain ⟨k, hk, rfl, hR⟩ := hrel
    clear hR0
    by_cases hlt : k < N
    · have hb1 : (0 : Int) ≤ (k : Int) := by omega
      have hb2 : (k : Int) < (N : Int) := by omega
      obtain ⟨i, hii⟩ : ∃ i, (a ++ b)[k]? = some i := ⟨_, List.getElem?_eq_getElem (by rw [hNl.out]; exact hlt)⟩
      have hP := fun j u hu => (hIX.out.nb hR.out.1) k i hii j u hu
      obtain rfl := hiX.out (by intro e; rw [e] at hii; simp at hii)
      have htk : ∀ i2 ∈ (a ++ b).take (k + 1), i2 ∈ (a ++ b).take k ∨ i2 = i := fun i2 h2 => by
        rw [List.take_add_one, hii] at h2
        rcases List.mem_append.1 h2 with h2 | h2
        · exact .inl h2
        · simp only [Option.toList_some, List.mem_singleton] at h2
          exact .inr h2
      have hpl : (i.1 = 1 ∨ i.1 = 6) → ∀ i2 ∈ (a ++ b).take (k + 1), i2.1 = 1 ∨ i2.1 = 6 := fun h i2 h2 => by
        rcases htk i2 h2 with h3 | rfl
        · exact hR.out.2 i2 h3
        · exact h
      replace hpl := Lib.hid hpl
      obtain ⟨kd, ⟨o1, o2, o3, o4, o5, o6, o7⟩, nm, v⟩ := i
      have p0 : wr.cell? ⟨bX, 0 + k * 10, none⟩ = some (.int .i64 kd) := hP 0 _ rfl
      have p1 : wr.cell? ⟨bX, 0 + k * 10 + 1, none⟩ = some (.int .i64 o1) := hP 1 _ rfl
      have p2 : wr.cell? ⟨bX, 0 + k * 10 + 2, none⟩ = some (.int .i64 o2) := hP 2 _ rfl
      have p3 : wr.cell? ⟨bX, 0 + k * 10 + 3, none⟩ = some (.int .i64 o3) := hP 3 _ rfl
      have p4 : wr.cell? ⟨bX, 0 + k * 10 + 4, none⟩ = some (.int .i64 o4) := hP 4 _ rfl
      have p5 : wr.cell? ⟨bX, 0 + k * 10 + 5, none⟩ = some (.int .i64 o5) := hP 5 _ rfl
      have p6 : wr.cell? ⟨bX, 0 + k * 10 + 6, none⟩ = some (.bool o6) := hP 6 _ rfl
      have p7 : wr.cell? ⟨bX, 0 + k * 10 + 7, none⟩ = some (.bool o7) := hP 7 _ rfl
      have p8 : wr.cell? ⟨bX, 0 + k * 10 + 8, none⟩ = some (.string nm) := hP 8 _ rfl
      have p9 : wr.cell? ⟨bX, 0 + k * 10 + 9, none⟩ = some (.int .u64 v) := hP 9 _ rfl
      obtain ⟨WA, hWA⟩ : ∃ WA, wr.alloc (.cells #[.int .i64 kd, .int .i64 o1, .int .i64 o2, .int .i64 o3, .int .i64 o4, .int .i64 o5, .bool o6, .bool o7, .string nm, .int .u64 v] 39) = WA := ⟨_, rfl⟩
      have nA : Nb wr WA := by rw [← hWA]; exact Below.alloc (Below.refl _ _) (Nat.le_refl _) _
      have bA : WA.heap[wr.heap.size]? = some (.cells #[.int .i64 kd, .int .i64 o1, .int .i64 o2, .int .i64 o3, .int .i64 o4, .int .i64 o5, .bool o6, .bool o7, .string nm, .int .u64 v] 39 (0, 0)) := by rw [← hWA]; exact new_bkc _ _ rfl
      clear hP hii htk
      simp only [Nat.zero_add] at p0 p1 p2 p3 p4 p5 p6 p7 p8 p9
      go_upto_region 6 with (fail)
      clear hWA p0 p1 p2 p3 p4 p5 p6 p7 p8 p9
      have i0 := cell_of_row _ _ 0 _ _ _ bA
      have hl5 := Lib.hid (hlives.out WA ((nW.trans hR.out.1).trans nA))
      cases h1 : (kd == 1)
      · have h1' : (kd != 1) = true := by rw [bne, h1]; rfl
        cases h6 : (kd == 6)
        · have h6' : (kd != 6) = true := by rw [bne, h6]; rfl
          go_wp2_with (go_at_call 6; refine hl5.out.mono ?_; rintro r w7 ⟨rfl, hn7⟩)
          go_ret
          exact ⟨rfl, ((nW.trans hR.out.1).trans nA).trans hn7⟩
        · have h6' : (kd != 6) = false := by rw [bne, h6]; rfl
          have hfin : Hid (Nb w6 WA ∧ ∀ i ∈ (a ++ b).take (k + 1), i.1 = 1 ∨ i.1 = 6) := Lib.hid ⟨hR.out.1.trans nA, hpl.out (.inr (by simpa using h6))⟩
          clear hpl
          go_wp2_with fail
          go_roundw
          case rel => exact ⟨k + 1, hlt, by simp, hfin⟩
          case measure => simp [intOf]; omega
      · have h1' : (kd != 1) = false := by rw [bne, h1]; rfl
        have hfin : Hid (Nb w6 WA ∧ ∀ i ∈ (a ++ b).take (k + 1), i.1 = 1 ∨ i.1 = 6) := Lib.hid ⟨hR.out.1.trans nA, hpl.out (.inl (by simpa using h1))⟩
        clear hpl
        go_wp2_with fail
        go_roundw
        case rel => exact ⟨k + 1, hlt, by simp, hfin⟩
        case measure => simp [intOf]; omega
    · obtain rfl : k = N := by omega
      have hPl := hR.out.2
      rw [List.take_of_length_le (by rw [hNl.out]; exact Nat.le_refl _)] at hPl
      have nR := nW.trans hR.out.1
      clear hR
      have hPa : Plain a := fun i hi => hPl i (List.mem_append_left _ hi)
      have hPb : Plain b := fun i hi => hPl i (List.mem_append_right _ hi)
      have hAA := Lib.hid (asm_items (rows_nb hAh.out nR) ha hPa (by omega) (by omega) base hw.1 hw.2 (hC.of_nb nR))
      have hlv := fun V (hV : Nb W V) => hlives.out V hV
      replace hlv := Lib.hid hlv
      go_upto_region 10 with (go_at_call 7; refine hAA.out.mono ?_; rintro r w7 ⟨S7, s7, c7, T7, t7, d7, rfl, hn7, hr7⟩)
      have n7 := nR.trans hn7
      have hl7 := Lib.hid (hlv.out w7 n7)
      clear hAA
      by_cases e0 : errK a base = 0
      case neg =>
        have e1 : (errK a base == 0) = false := beq_false_of_ne e0
        have e2 : (errK a base != 0) = true := by rw [bne, e1]; rfl
        clear hr7 e0
        generalize errK a base = EA at e1 e2 ⊢
        go_wp2_with (go_at_call 6; refine hl7.out.mono ?_; rintro r w8 ⟨rfl, hn8⟩)
        go_ret
        exact ⟨rfl, n7.trans hn8⟩
      have hap := errK_app (b := b) hw.1 (by omega) e0
      obtain ⟨hs7, hr7⟩ := hr7 e0
      have e2 : (errK a base != 0) = false := by rw [e0]; rfl
      rw [e0]
      rw [← hs7] at hap
      obtain ⟨hap1, hap2, hap3⟩ := hap
      have hs8 : s7 ≤ 3600 := by rw [hs7]; unfold wdK; rw [List.length_map]; exact hka
      have f1 : IntKind.i64.wrap (4 * (s7 : Int)) = 4 * (s7 : Int) := by rw [IntKind.wrap_i64]; omega
      have f2 : IntKind.u64.wrap (4 * (s7 : Int)) = 4 * (s7 : Int) := by rw [IntKind.wrap_u64]; omega
      have f3 : IntKind.u64.wrap (base + 4 * (s7 : Int)) = base + 4 * (s7 : Int) := by rw [IntKind.wrap_u64]; omega
      have hBB := Lib.hid (asm_items (rows_nb hBh.out n7) hb hPb (by omega) (by omega) (base + 4 * (s7 : Int)) (by omega) (by omega) (hC.of_nb n7))
      have hs7h := Lib.hid hs7
      have hap3h := Lib.hid hap3
      clear hs7 hap3 e0
      go_upto_region 13 with (go_at_call 7; refine hBB.out.mono ?_; rintro r w8 ⟨S8, s8, c8, T8, t8, d8, rfl, hn8, hr8⟩)
      clear hBB f1 f2 f3 hl7
      have n8 := n7.trans hn8
      obtain ⟨W9, hW9⟩ : ∃ W9, w8.alloc (.cells #[] 39) = W9 := ⟨_, rfl⟩
      have n9 : Nb w8 W9 := by rw [← hW9]; exact (Nb.refl _).alloc _
      have r9 : W9.ownsRow w8.heap.size 39 10 (.slice (some ⟨w8.heap.size, 0, none⟩) 0 0) 0 [] := by rw [← hW9]; exact empty_row w8
      have sA := src_items (rows_nb hAh.out (n8.trans n9))
      have hxx : ∀ i ∈ a ++ b, ItmOk i := fun i hi => (List.mem_append.1 hi).elim (ha i) (hb i)
      have hkk : (allK (a ++ b)).length ≤ 65536 := by rw [allK_app, List.length_append]; omega
      have hNN := hNl.out
      go_upto_region 14 with (first
        | (refine wpList_append_src rfl (.tmp 70) (.tmp 71) 22 rfl w8.heap.size 39 ii _ 10 80 Tryd.underlying22 hi hz0 hz1 hz2 rfl (by decide) _ 0 [] rfl r9 _ a.length (a.flatMap itmC) rfl sA (by unfold maxLen; omega) (by omega) n9.size ?_; intro v10 w10 r10 g10; have n10 : Nb w8 w10 := app_nb n9 g10 (Nat.le_refl _); have sB := src_items (rows_nb hBh.out (n8.trans n10)))
        | (refine wpList_append_src rfl (.tmp 72) (.tmp 73) 22 rfl w8.heap.size 39 ii _ 10 80 Tryd.underlying22 hi hz0 hz1 hz2 rfl (by decide) _ _ _ rfl r10 _ b.length (b.flatMap itmC) rfl sB (by unfold maxLen; omega) (by omega) n10.size ?_; intro v11 w11 r11 g11; have n11 : Nb w8 w11 := app_nb2 n10 r10 g11; have hCC := asm_row (base0 := w8.heap.size) (is := a ++ b) (by simpa using r11) hxx hPl (by omega) hkk base hw.1 hw.2 (hC.of_nb (n8.trans n11)))
        | (go_at_call 7; refine hCC.mono ?_; rintro r w12 ⟨S12, s12, c12, T12, t12, d12, rfl, hn12, hr12⟩))
      have n12 := n11.trans hn12
      have nZ := n8.trans n12
      have hl15 := Lib.hid (hlv.out w12 nZ)
      have hwa : wdK (a ++ b) = wdK a ++ wdK b := wdK_app a b
      have hlb : (wdK b).length ≤ 3600 := by unfold wdK; rw [List.length_map]; exact hkb
      have hS7 : w12.ownsRow wr.heap.size 60 1 (.slice S7 s7 c7) s7 ((wdK a).map (Value.int .u32)) := by
        have h1 := row_kq hr7 (Kq.of_nb (X := fun _ => false) (R := fun _ => False) (hn8.trans n12)) (fun _ h => h.elim) (fun _ _ => rfl)
        rwa [← hs7h.out] at h1
      have hlt7 := row_lt hr7
      have hle7 : w7.heap.size ≤ w11.heap.size := Nat.le_trans hn8.size n11.size
      replace hlt7 := Lib.hid hlt7
      replace hS7 := Lib.hid hS7
      replace hr8 := Lib.hid hr8
      replace hr12 := Lib.hid hr12
      clear r9 r10 g10 sA sB r11 g11 hCC n9 n10 hW9 hr7 hxx hkk
      obtain ⟨F, hF⟩ : ∃ F, errK b (base + 4 * (s7 : Int)) = F := ⟨_, rfl⟩
      obtain ⟨G, hG⟩ : ∃ G, errK (a ++ b) base = G := ⟨_, rfl⟩
      rw [hF, hG] at hap3h
      rw [hF] at hr8
      rw [hG] at hr12
      simp only [hF, hG]
      clear hF hG
      have h15 : ∀ (hne : F ≠ 0 ∨ G ≠ 0), (F != 0 || G != 0) = true := fun h => by rcases h with h | h <;> simp [h]
      cases eF : (F == 0)
      · have eF' : (F != 0) = true := by rw [bne, eF]; rfl
        cases eFG : (F == G)
        · have hbb : decide (base > 536870912) = true := by
            rcases hap3h.out with h | h
            · rw [h] at eFG; simp at eFG
            · simpa using h
          go_wp2_with (go_at_call 6; refine hl15.out.mono ?_; rintro r w16 ⟨rfl, hn16⟩)
          go_ret
          exact ⟨rfl, nZ.trans hn16⟩
        · go_wp2_with (go_at_call 6; refine hl15.out.mono ?_; rintro r w16 ⟨rfl, hn16⟩)
          go_ret
          exact ⟨rfl, nZ.trans hn16⟩
      · have eF' : (F != 0) = false := by rw [bne, eF]; rfl
        cases eG : (G == 0)
        · have eG' : (G != 0) = true := by rw [bne, eG]; rfl
          cases eFG : (F == G)
          · have hbb : decide (base > 536870912) = true := by
              rcases hap3h.out with h | h
              · rw [h] at eFG; simp at eFG
              · simpa using h
            go_wp2_with (go_at_call 6; refine hl15.out.mono ?_; rintro r w16 ⟨rfl, hn16⟩)
            go_ret
            exact ⟨rfl, nZ.trans hn16⟩
          · go_wp2_with (go_at_call 6; refine hl15.out.mono ?_; rintro r w16 ⟨rfl, hn16⟩)
            go_ret
            exact ⟨rfl, nZ.trans hn16⟩
        · have eG' : (G != 0) = false := by rw [bne, eG]; rfl
          obtain ⟨hs8', hr8'⟩ := hr8.out (by simpa using eF)
          obtain ⟨hs12', hr12'⟩ := hr12.out (by simpa using eG)
          subst hs8'
          subst hs12'
          have hB8 := row_kq hr8' (Kq.of_nb (X := fun _ => false) (R := fun _ => False) n12) (fun _ h => h.elim) (fun _ _ => rfl)
          have hsrc := src_words hB8
          obtain ⟨iu, hiu, hu0, hu1, hu2⟩ := parts_u32
          have hws := hr12'
          have hlt8 : wr.heap.size ≤ w12.heap.size := Nat.le_trans hn7.size (Nat.le_trans hn8.size n12.size)
          have hws2 : w12.ownsRow w11.heap.size 60 1 (.slice S12 ((wdK a).length + (wdK b).length) c12) (wdK a ++ wdK b).length ((wdK a ++ wdK b).map (Value.int .u32)) := by rw [hwa] at hws; rw [← List.length_append]; exact hws
          have nq : Nb wr w12 := hn7.trans (hn8.trans n12)
          have hlab : (wdK a ++ wdK b).length ≤ 10000000 := by rw [List.length_append, ← hs7h.out]; omega
          have hdd : decide (wdK a ++ wdK b = wdK a ++ wdK b) = true := decide_eq_true rfl
          clear hws hr8' hr12' hB8 hr8 hr12 hap3h h15
          go_wp2_with (first
            | (refine wpList_append_src rfl (.tmp 97) (.tmp 98) 26 rfl wr.heap.size 60 iu _ 1 4 Tryd.underlying26 hiu hu0 hu1 hu2 rfl (by decide) _ _ _ rfl hS7.out _ (wdK b).length ((wdK b).map (Value.int .u32)) rfl hsrc (by unfold maxLen; omega) (by omega) hlt8 ?_; intro v13 w13 r13 g13; have n13 : Nb wr w13 := app_nb2 nq hS7.out g13; have r13' : w13.ownsRow wr.heap.size 60 1 v13 (wdK a ++ wdK b).length ((wdK a ++ wdK b).map (Value.int .u32)) := (by rw [List.length_append, List.map_append, ← hs7h.out]; exact r13); have hws3 := row_grown hws2 g13 (fun g hg => Nat.lt_of_lt_of_le (hlt7.out g hg) hle7); have hWW := same_words w11.heap.size wr.heap.size (.slice S12 ((wdK a).length + (wdK b).length) c12) v13 _ _ hlab hlab w13 hws3 r13'; rw [hdd] at hWW; obtain ⟨A13, c13, rfl⟩ := row_sl r13)
            | (go_at_call 9; refine hWW.mono ?_; rintro r w14 ⟨rfl, hn14⟩; have n14 := (nR.trans n13).trans hn14; have hl14 := hlv.out w14 n14)
            | (go_at_call 6; refine hl14.mono ?_; rintro r w16 ⟨rfl, hn16⟩))
          go_ret
          exact ⟨rfl, n14.trans hn16⟩
/-! The row's step. -/
set_option maxRecDepth 100000 in
set_option maxHeartbeats 1000000 in
theorem lifted (os : Os) (started : os.Started) (H : Type) (enc : TypeId × Value → H) :
    ReturnsInHanded {} Tryd.checked os 4 .any (fun w args => (Rows.codePartsSpec.pre enc Tryd.prog Tryd.f4 [] false w args ∧ laidMetH Tryd.prog laidL w) ∧ sizedMet enc Tryd.prog Tryd.f4 (OpenSpec.ofChange Rows.codePartsSpec) false w args)
      (Rows.codePartsSpec.post enc Tryd.prog Tryd.f4 false true false false) := by
  refine returnsInHanded_of_change_and (C := Tryd.checked) (X := fun w _ => laidMetH Tryd.prog laidL w) (fun _ _ _ hh h => h.of_heap hh) own started (by kernel_rfl) Tryd.func4
    (ChangeSpec.witness_shaped (enc := enc) (C := Tryd.checked) (os := os) (X := fun w _ => laidMetH Tryd.prog laidL w) false (World.doorLaid Tryd.prog 400 os) #[.slice none 0 0, .slice none 0 0, .int .u64 0] 8 rfl (World.shaped_of_RefB (by kernel_rfl) (by kernel_rfl)) (by kernel_rfl) (by kernel_rfl) (by kernel_rfl) (door_met os _)) ?_
  intro W base args ds gs before hval0 hW _ _ hL _
  have hval : ∀ (j : Nat) t v, Tryd.f4.params[j]? = some t → args[j]? = some v → Value.okWide Tryd.prog W .any base t v := hval0
  have hW' := hW
  obtain ⟨p, q, hA0, hV, rfl, hfz, hnd⟩ := hW
  have hA1 : DataW.TrodAll enc Tryd.prog W 0 (fun _ => true) true Tryd.f4.params.toList args.toList ds p := hA0
  have hA := hA1
  rw [Tryd.params4] at hA hval
  obtain ⟨v0, vs0, d0, ds0, p0, q0, hargs0, rfl, -, h0, r0⟩ := trodAll_cons hA
  obtain ⟨v1, vs1, d1, ds1, p1, q1, hargs1, rfl, -, h1, r1⟩ := trodAll_cons r0
  obtain ⟨v2, vs2, d2, ds2, p2, q2, hargs2, rfl, -, h2, r2⟩ := trodAll_cons r1
  obtain ⟨rfl, rfl, -⟩ := trodAll_nil r2
  obtain rfl : args = #[v0, v1, v2] := by cases args; simp_all
  obtain ⟨rfl, rfl⟩ := trodVars_none hV
  obtain ⟨q0, hq0, hx0⟩ := open_items (hval 0 22 v0 rfl rfl) h0
  obtain ⟨q1, hq1, hx1⟩ := open_items (hval 1 22 v1 rfl rfl) h1
  obtain ⟨n2, rfl, -, -, w2⟩ := open_int Tryd.underlying23 (hval 2 23 v2 rfl rfl) h2
  clear hval0
  simp only [List.append_nil] at hW'
  refine (walk v0 q0 v1 q1 n2 hx0 hx1 (in_of w2) W (cod_of_laid hL) hq0 hq1).mono fun e W' ⟨he, hg⟩ => ?_
  subst he
  exact ⟨_, rfl, post_of_nb (pa := p) (pv := []) hW' (fun _ _ _ => (trodAll_cons_mk (shut_bool Tryd.underlying4 _) trodAll_mk0))
    (fun sp hsp => args_stay (by kernel_rfl) hg hA1 (fun t ht => by
      have h0 : (Tryd.f4.params.toList.all fun t => Tryd.prog.readableRec t && decide (t < Tryd.prog.types.size)) = true := by kernel_rfl
      have h1 := List.all_eq_true.1 h0 t ht
      rw [Bool.and_eq_true, decide_eq_true_eq] at h1
      exact h1) (fun x hx => hW'.lt x hx) hsp)
    (fun _ _ => rfl) (by simp) hg (ok_one (by kernel_rfl) rfl (okWide_bool_mk Tryd.underlying4 _))⟩
theorem over : Rows.CodePartsSaid :=
  OpenClaim.holds_of_wide 4 Tryd.f4 rfl rfl rfl rfl rfl rfl rfl ⟨rfl, rfl, rfl, rfl, rfl⟩ rfl rfl rfl rfl rfl (by kernel_rfl) Tryd.func4 (by kernel_rfl)
    (of_decide_eq_true (by kernel_rfl)) (by unfold Func.isWrapper; first | (rw [if_pos (by decide +kernel)]; kernel_rfl) | (rw [if_neg (by decide +kernel)]; exact ⟨rfl, rfl⟩))
    (fun os started H enc _ => lifted os started H enc)
/-- The statement: the tied card. -/
theorem proved : Rows.CodePartsCardSaid :=
  Claim7.holds_tied_plain_at .later [] [.data] true (true, "ef17397f89cc864917fb88f455a2f1a347b6b2a09f83275a27d0fe0b6e3338b4") false
    over (fun _ h => by cases h) (by kernel_rfl) (fun _ h => by cases h) codeParts_row_tie rfl ⟨rfl, rfl⟩ (by kernel_rfl) rfl
    (fun f fn hf hfn => by
      obtain rfl : f = 4 := Option.some.inj ((show Tryd.prog.funcNamed "postbag/postbaglaw19.CodeParts" = some 4 by kernel_rfl).symm.trans hf) |>.symm
      obtain rfl : fn = Tryd.f4 := (Option.some.inj (Tryd.func4.symm.trans hfn)).symm
      exact ⟨by kernel_rfl, fun j t ht => by
        rw [Tryd.params4] at ht
        have hm : t ∈ [22, 22, 23] := by simpa using Array.mem_of_getElem? ht
        have hall : ([22, 22, 23].all fun u => !Tryd.prog.wantsStandIn u) = true := by kernel_rfl
        exact (show Tryd.prog.wantsStandIn t = false by simpa using List.all_eq_true.1 hall t hm)⟩)
    (by kernel_rfl)
#print axioms proved
end Go.Proofs.YtnooabgdcfegeaaDoor.codeParts

/-
  Proved here: what atomic operations store does not depend on which of two came first. Conditions: the numbers are words.
-/
import Derived.Test.YtnifoghebnjonaaDoorDb
namespace Go.Proofs.YtnifoghebnjonaaDoor
open Go.RowKit
set_option linter.unusedVariables false
theorem fld_in32 (x : Int) (q : InU x) : 0 ≤ Fld x 0 32 ∧ Fld x 0 32 < 4294967296 := by rw [fld32 x q.1]; omega
theorem sgn_fld (z : Int) (q : InU z) : Sgn (Fld z 0 32) 32 = Sgn z 32 := sgn_cong _ _ (in_fld _ 0 32 q).1 q.1 (by rw [fld32 z q.1]; omega)
theorem sgn_twice (z : Int) (q : InU z) : Sgn (Sgn z 32) 32 = Sgn z 32 := sgn_cong _ _ (in_sgn z 32 q).1 q.1 (sgn_m z q.1)
theorem fld_fld (z : Int) (q : InU z) : Fld (Fld z 0 32) 0 32 = Fld z 0 32 := by rw [fld32 _ (in_fld z 0 32 q).1, fld32 z q.1]; omega
theorem s64_pick (x y : Int) : S64 (PickI (LtS x y) x y) = min (S64 x) (S64 y) := by
  unfold PickI LtS
  by_cases h : S64 x < S64 y
  · simp [h]; omega
  · simp [h]; omega
theorem s64_pickm (x y : Int) : S64 (PickI (LtS x y) y x) = max (S64 x) (S64 y) := by
  unfold PickI LtS
  by_cases h : S64 x < S64 y
  · simp [h]; omega
  · simp [h]; omega
theorem s64_eq (x y : Int) (qx : InU x) (qy : InU y) (h : S64 x = S64 y) : x = y := by
  unfold S64 wrap64 at h
  have := qx.1; have := qx.2; have := qy.1; have := qy.2
  omega
theorem min_turn (o a b : Int) (qo : InU o) (qa : InU a) (qb : InU b) : PickI (LtS (PickI (LtS o a) o a) b) (PickI (LtS o a) o a) b = PickI (LtS (PickI (LtS o b) o b) a) (PickI (LtS o b) o b) a := by
  refine s64_eq _ _ (in_pick _ _ _ (in_pick _ _ _ qo qa) qb) (in_pick _ _ _ (in_pick _ _ _ qo qb) qa) ?_
  rw [s64_pick, s64_pick, s64_pick, s64_pick]; omega
theorem max_turn (o a b : Int) (qo : InU o) (qa : InU a) (qb : InU b) : PickI (LtS (PickI (LtS o a) a o) b) b (PickI (LtS o a) a o) = PickI (LtS (PickI (LtS o b) b o) a) a (PickI (LtS o b) b o) := by
  refine s64_eq _ _ (in_pick _ _ _ qb (in_pick _ _ _ qa qo)) (in_pick _ _ _ qa (in_pick _ _ _ qb qo)) ?_
  rw [s64_pickm, s64_pickm, s64_pickm, s64_pickm]; omega
theorem sgn_pick (c : Bool) (x y : Int) (qx : InU x) (qy : InU y) : Sgn (Fld (PickI c (Sgn x 32) (Sgn y 32)) 0 32) 32 = PickI c (Sgn x 32) (Sgn y 32) := by
  rw [sgn_fld _ (in_pick _ _ _ (in_sgn x 32 qx) (in_sgn y 32 qy))]
  unfold PickI; split
  · exact sgn_twice x qx
  · exact sgn_twice y qy
theorem at_add (o a b : Int) (qo : InU o) (qa : InU a) (qb : InU b) : Fld (IntKind.u64.wrap (Fld (IntKind.u64.wrap (o + a)) 0 32 + b)) 0 32 = Fld (IntKind.u64.wrap (Fld (IntKind.u64.wrap (o + b)) 0 32 + a)) 0 32 := by
  rw [fld32 _ (in_wrap _).1, fld32 _ (in_wrap _).1, fld32 _ (in_wrap _).1, fld32 _ (in_wrap _).1, wU, wU, wU, wU]; omega
theorem at_addd (o a b : Int) : IntKind.u64.wrap (IntKind.u64.wrap (o + a) + b) = IntKind.u64.wrap (IntKind.u64.wrap (o + b) + a) := by
  rw [wU, wU, wU, wU]; omega
theorem at_xord (o a b : Int) (qo : InU o) (qa : InU a) (qb : InU b) : bits .xor .u64 (bits .xor .u64 o a) b = bits .xor .u64 (bits .xor .u64 o b) a := by
  have p := in_xor o a qo qa
  have r := in_xor o b qo qb
  rw [u64_xor _ b p.1 p.2 qb.1 qb.2, u64_xor _ a r.1 r.2 qa.1 qa.2, u64_xor o a qo.1 qo.2 qa.1 qa.2, u64_xor o b qo.1 qo.2 qb.1 qb.2, Int.toNat_natCast, Int.toNat_natCast, Nat.xor_assoc, Nat.xor_comm a.toNat, ← Nat.xor_assoc]
theorem at_xor (o a b : Int) (qo : InU o) (qa : InU a) (qb : InU b) : Fld (bits .xor .u64 (Fld (bits .xor .u64 o a) 0 32) b) 0 32 = Fld (bits .xor .u64 (Fld (bits .xor .u64 o b) 0 32) a) 0 32 := by
  have key : ∀ z b : Int, InU z → InU b → Fld (bits .xor .u64 (Fld z 0 32) b) 0 32 = Fld (bits .xor .u64 z b) 0 32 := by
    intro z b qz qb
    have p := in_fld z 0 32 qz
    rw [fld32 _ (in_xor _ _ p qb).1, fld32 _ (in_xor _ _ qz qb).1, u64_xor _ _ p.1 p.2 qb.1 qb.2, u64_xor z b qz.1 qz.2 qb.1 qb.2]
    have h : ((Fld z 0 32).toNat ^^^ b.toNat) % 2 ^ 32 = (z.toNat ^^^ b.toNat) % 2 ^ 32 := by
      rw [Nat.xor_mod_two_pow, Nat.xor_mod_two_pow (a := z.toNat), show (2 : Nat) ^ 32 = 4294967296 from by decide]
      have : (Fld z 0 32).toNat % 4294967296 = z.toNat % 4294967296 := by
        have h1 := fld32 z qz.1
        have h2 := qz.1
        omega
      rw [this]
    rw [show (2 : Nat) ^ 32 = 4294967296 from by decide] at h
    omega
  rw [key _ _ (in_xor o a qo qa) qb, key _ _ (in_xor o b qo qb) qa, at_xord o a b qo qa qb]
theorem at_andd (o a b : Int) (qo : InU o) (qa : InU a) (qb : InU b) : bits .and .u64 (bits .and .u64 o a) b = bits .and .u64 (bits .and .u64 o b) a := by
  have p := in_and o a qo qa
  have r := in_and o b qo qb
  rw [u64_and _ b p.1 p.2 qb.1 qb.2, u64_and _ a r.1 r.2 qa.1 qa.2, u64_and o a qo.1 qo.2 qa.1 qa.2, u64_and o b qo.1 qo.2 qb.1 qb.2, Int.toNat_natCast, Int.toNat_natCast, Nat.and_assoc, Nat.and_comm a.toNat, ← Nat.and_assoc]
theorem at_and (o a b : Int) (qo : InU o) (qa : InU a) (qb : InU b) : Fld (bits .and .u64 (Fld (bits .and .u64 o a) 0 32) b) 0 32 = Fld (bits .and .u64 (Fld (bits .and .u64 o b) 0 32) a) 0 32 := by
  have key : ∀ z b : Int, InU z → InU b → Fld (bits .and .u64 (Fld z 0 32) b) 0 32 = Fld (bits .and .u64 z b) 0 32 := by
    intro z b qz qb
    have p := in_fld z 0 32 qz
    rw [fld32 _ (in_and _ _ p qb).1, fld32 _ (in_and _ _ qz qb).1, u64_and _ _ p.1 p.2 qb.1 qb.2, u64_and z b qz.1 qz.2 qb.1 qb.2]
    have h : ((Fld z 0 32).toNat &&& b.toNat) % 2 ^ 32 = (z.toNat &&& b.toNat) % 2 ^ 32 := by
      rw [Nat.and_mod_two_pow, Nat.and_mod_two_pow (a := z.toNat), show (2 : Nat) ^ 32 = 4294967296 from by decide]
      have : (Fld z 0 32).toNat % 4294967296 = z.toNat % 4294967296 := by
        have h1 := fld32 z qz.1
        have h2 := qz.1
        omega
      rw [this]
    rw [show (2 : Nat) ^ 32 = 4294967296 from by decide] at h
    omega
  rw [key _ _ (in_and o a qo qa) qb, key _ _ (in_and o b qo qb) qa, at_andd o a b qo qa qb]
theorem at_ord (o a b : Int) (qo : InU o) (qa : InU a) (qb : InU b) : bits .or .u64 (bits .or .u64 o a) b = bits .or .u64 (bits .or .u64 o b) a := by
  have p := in_or o a qo qa
  have r := in_or o b qo qb
  rw [u64_or _ b p.1 p.2 qb.1 qb.2, u64_or _ a r.1 r.2 qa.1 qa.2, u64_or o a qo.1 qo.2 qa.1 qa.2, u64_or o b qo.1 qo.2 qb.1 qb.2, Int.toNat_natCast, Int.toNat_natCast, Nat.or_assoc, Nat.or_comm a.toNat, ← Nat.or_assoc]
theorem at_or (o a b : Int) (qo : InU o) (qa : InU a) (qb : InU b) : Fld (bits .or .u64 (Fld (bits .or .u64 o a) 0 32) b) 0 32 = Fld (bits .or .u64 (Fld (bits .or .u64 o b) 0 32) a) 0 32 := by
  have key : ∀ z b : Int, InU z → InU b → Fld (bits .or .u64 (Fld z 0 32) b) 0 32 = Fld (bits .or .u64 z b) 0 32 := by
    intro z b qz qb
    have p := in_fld z 0 32 qz
    rw [fld32 _ (in_or _ _ p qb).1, fld32 _ (in_or _ _ qz qb).1, u64_or _ _ p.1 p.2 qb.1 qb.2, u64_or z b qz.1 qz.2 qb.1 qb.2]
    have h : ((Fld z 0 32).toNat ||| b.toNat) % 2 ^ 32 = (z.toNat ||| b.toNat) % 2 ^ 32 := by
      rw [Nat.or_mod_two_pow, Nat.or_mod_two_pow (a := z.toNat), show (2 : Nat) ^ 32 = 4294967296 from by decide]
      have : (Fld z 0 32).toNat % 4294967296 = z.toNat % 4294967296 := by
        have h1 := fld32 z qz.1
        have h2 := qz.1
        omega
      rw [this]
    rw [show (2 : Nat) ^ 32 = 4294967296 from by decide] at h
    omega
  rw [key _ _ (in_or o a qo qa) qb, key _ _ (in_or o b qo qb) qa, at_ord o a b qo qa qb]
theorem at_min (o a b : Int) (qo : InU o) (qa : InU a) (qb : InU b) :
    Fld (PickI (LtS (Sgn (Fld (PickI (LtS (Sgn o 32) (Sgn a 32)) (Sgn o 32) (Sgn a 32)) 0 32) 32) (Sgn b 32)) (Sgn (Fld (PickI (LtS (Sgn o 32) (Sgn a 32)) (Sgn o 32) (Sgn a 32)) 0 32) 32) (Sgn b 32)) 0 32
    = Fld (PickI (LtS (Sgn (Fld (PickI (LtS (Sgn o 32) (Sgn b 32)) (Sgn o 32) (Sgn b 32)) 0 32) 32) (Sgn a 32)) (Sgn (Fld (PickI (LtS (Sgn o 32) (Sgn b 32)) (Sgn o 32) (Sgn b 32)) 0 32) 32) (Sgn a 32)) 0 32 := by
  rw [sgn_pick _ o a qo qa, sgn_pick _ o b qo qb, min_turn _ _ _ (in_sgn o 32 qo) (in_sgn a 32 qa) (in_sgn b 32 qb)]
theorem at_max (o a b : Int) (qo : InU o) (qa : InU a) (qb : InU b) :
    Fld (PickI (LtS (Sgn (Fld (PickI (LtS (Sgn o 32) (Sgn a 32)) (Sgn a 32) (Sgn o 32)) 0 32) 32) (Sgn b 32)) (Sgn b 32) (Sgn (Fld (PickI (LtS (Sgn o 32) (Sgn a 32)) (Sgn a 32) (Sgn o 32)) 0 32) 32)) 0 32
    = Fld (PickI (LtS (Sgn (Fld (PickI (LtS (Sgn o 32) (Sgn b 32)) (Sgn b 32) (Sgn o 32)) 0 32) 32) (Sgn a 32)) (Sgn a 32) (Sgn (Fld (PickI (LtS (Sgn o 32) (Sgn b 32)) (Sgn b 32) (Sgn o 32)) 0 32) 32)) 0 32 := by
  rw [sgn_pick _ a o qa qo, sgn_pick _ b o qb qo, max_turn _ _ _ (in_sgn o 32 qo) (in_sgn a 32 qa) (in_sgn b 32 qb)]
theorem at_minu (o a b : Int) (qo : InU o) (qa : InU a) (qb : InU b) : Fld (MinI (Fld (Fld (MinI (Fld o 0 32) (Fld a 0 32)) 0 32) 0 32) (Fld b 0 32)) 0 32 = Fld (MinI (Fld (Fld (MinI (Fld o 0 32) (Fld b 0 32)) 0 32) 0 32) (Fld a 0 32)) 0 32 := by
  have p := in_min _ _ (in_fld o 0 32 qo) (in_fld a 0 32 qa)
  have r := in_min _ _ (in_fld o 0 32 qo) (in_fld b 0 32 qb)
  rw [fld_fld _ p, fld_fld _ r]
  have p2 := in_min _ _ (in_fld _ 0 32 p) (in_fld b 0 32 qb)
  have r2 := in_min _ _ (in_fld _ 0 32 r) (in_fld a 0 32 qa)
  rw [fld32 _ p2.1, fld32 _ r2.1, fld32 _ p.1, fld32 _ r.1, fld32 o qo.1, fld32 a qa.1, fld32 b qb.1]
  unfold MinI; omega
theorem at_maxu (o a b : Int) (qo : InU o) (qa : InU a) (qb : InU b) : Fld (MaxI (Fld (Fld (MaxI (Fld o 0 32) (Fld a 0 32)) 0 32) 0 32) (Fld b 0 32)) 0 32 = Fld (MaxI (Fld (Fld (MaxI (Fld o 0 32) (Fld b 0 32)) 0 32) 0 32) (Fld a 0 32)) 0 32 := by
  have p := in_max _ _ (in_fld o 0 32 qo) (in_fld a 0 32 qa)
  have r := in_max _ _ (in_fld o 0 32 qo) (in_fld b 0 32 qb)
  rw [fld_fld _ p, fld_fld _ r]
  have p2 := in_max _ _ (in_fld _ 0 32 p) (in_fld b 0 32 qb)
  have r2 := in_max _ _ (in_fld _ 0 32 r) (in_fld a 0 32 qa)
  rw [fld32 _ p2.1, fld32 _ r2.1, fld32 _ p.1, fld32 _ r.1, fld32 o qo.1, fld32 a qa.1, fld32 b qb.1]
  unfold MaxI; omega
theorem st_in (op old b : Int) (qo : InU old) (qb : InU b) (h : InU (CgB op old b)) : InU (StB op old b) := by
  unfold StB; split
  · exact in_fld _ 0 _ h
  · exact ⟨by decide, by decide⟩
theorem stb_69 (old b : Int) : StB 69 old b = Fld (IntKind.u64.wrap (old + b)) 0 32 := by
  unfold StB
  rw [show StoreB 69 = true from by decide, if_pos rfl, cg_69, show SizeI 69 = 4 from by decide]
  rfl
theorem sti_69 (o a : Int) (qo : InU o) (qa : InU a) : InU (StB 69 o a) := by
  rw [stb_69]
  have q0 := qo
  have q1 := qa
  exact in_fld _ 0 32 (in_wrap _)
theorem at_69 (o a b : Int) (qo : InU o) (qa : InU a) (qb : InU b) : StB 69 (StB 69 o a) b = StB 69 (StB 69 o b) a := by
  rw [stb_69, stb_69, stb_69, stb_69]
  exact at_add o a b qo qa qb
theorem stb_70 (old b : Int) : StB 70 old b = Fld (bits .xor .u64 old b) 0 32 := by
  unfold StB
  rw [show StoreB 70 = true from by decide, if_pos rfl, cg_70, show SizeI 70 = 4 from by decide]
  rfl
theorem sti_70 (o a : Int) (qo : InU o) (qa : InU a) : InU (StB 70 o a) := by
  rw [stb_70]
  have q0 := qo
  have q1 := qa
  exact in_fld _ 0 32 (in_xor _ _ q0 q1)
theorem at_70 (o a b : Int) (qo : InU o) (qa : InU a) (qb : InU b) : StB 70 (StB 70 o a) b = StB 70 (StB 70 o b) a := by
  rw [stb_70, stb_70, stb_70, stb_70]
  exact at_xor o a b qo qa qb
theorem stb_71 (old b : Int) : StB 71 old b = Fld (bits .and .u64 old b) 0 32 := by
  unfold StB
  rw [show StoreB 71 = true from by decide, if_pos rfl, cg_71, show SizeI 71 = 4 from by decide]
  rfl
theorem sti_71 (o a : Int) (qo : InU o) (qa : InU a) : InU (StB 71 o a) := by
  rw [stb_71]
  have q0 := qo
  have q1 := qa
  exact in_fld _ 0 32 (in_and _ _ q0 q1)
theorem at_71 (o a b : Int) (qo : InU o) (qa : InU a) (qb : InU b) : StB 71 (StB 71 o a) b = StB 71 (StB 71 o b) a := by
  rw [stb_71, stb_71, stb_71, stb_71]
  exact at_and o a b qo qa qb
theorem stb_72 (old b : Int) : StB 72 old b = Fld (bits .or .u64 old b) 0 32 := by
  unfold StB
  rw [show StoreB 72 = true from by decide, if_pos rfl, cg_72, show SizeI 72 = 4 from by decide]
  rfl
theorem sti_72 (o a : Int) (qo : InU o) (qa : InU a) : InU (StB 72 o a) := by
  rw [stb_72]
  have q0 := qo
  have q1 := qa
  exact in_fld _ 0 32 (in_or _ _ q0 q1)
theorem at_72 (o a b : Int) (qo : InU o) (qa : InU a) (qb : InU b) : StB 72 (StB 72 o a) b = StB 72 (StB 72 o b) a := by
  rw [stb_72, stb_72, stb_72, stb_72]
  exact at_or o a b qo qa qb
theorem stb_73 (old b : Int) : StB 73 old b = Fld (PickI (LtS (Sgn old 32) (Sgn b 32)) (Sgn old 32) (Sgn b 32)) 0 32 := by
  unfold StB
  rw [show StoreB 73 = true from by decide, if_pos rfl, cg_73, show SizeI 73 = 4 from by decide]
  rfl
theorem sti_73 (o a : Int) (qo : InU o) (qa : InU a) : InU (StB 73 o a) := by
  rw [stb_73]
  have q0 := in_sgn _ 32 qo
  have q1 := in_sgn _ 32 qa
  exact in_fld _ 0 32 (in_pick _ _ _ q0 q1)
theorem at_73 (o a b : Int) (qo : InU o) (qa : InU a) (qb : InU b) : StB 73 (StB 73 o a) b = StB 73 (StB 73 o b) a := by
  rw [stb_73, stb_73, stb_73, stb_73]
  exact at_min o a b qo qa qb
theorem stb_74 (old b : Int) : StB 74 old b = Fld (PickI (LtS (Sgn old 32) (Sgn b 32)) (Sgn b 32) (Sgn old 32)) 0 32 := by
  unfold StB
  rw [show StoreB 74 = true from by decide, if_pos rfl, cg_74, show SizeI 74 = 4 from by decide]
  rfl
theorem sti_74 (o a : Int) (qo : InU o) (qa : InU a) : InU (StB 74 o a) := by
  rw [stb_74]
  have q0 := in_sgn _ 32 qo
  have q1 := in_sgn _ 32 qa
  exact in_fld _ 0 32 (in_pick _ _ _ q1 q0)
theorem at_74 (o a b : Int) (qo : InU o) (qa : InU a) (qb : InU b) : StB 74 (StB 74 o a) b = StB 74 (StB 74 o b) a := by
  rw [stb_74, stb_74, stb_74, stb_74]
  exact at_max o a b qo qa qb
theorem stb_75 (old b : Int) : StB 75 old b = Fld (MinI (Fld old 0 32) (Fld b 0 32)) 0 32 := by
  unfold StB
  rw [show StoreB 75 = true from by decide, if_pos rfl, cg_75, show SizeI 75 = 4 from by decide]
  rfl
theorem sti_75 (o a : Int) (qo : InU o) (qa : InU a) : InU (StB 75 o a) := by
  rw [stb_75]
  have q0 := in_fld _ 0 32 qo
  have q1 := in_fld _ 0 32 qa
  exact in_fld _ 0 32 (in_min _ _ q0 q1)
theorem at_75 (o a b : Int) (qo : InU o) (qa : InU a) (qb : InU b) : StB 75 (StB 75 o a) b = StB 75 (StB 75 o b) a := by
  rw [stb_75, stb_75, stb_75, stb_75]
  exact at_minu o a b qo qa qb
theorem stb_76 (old b : Int) : StB 76 old b = Fld (MaxI (Fld old 0 32) (Fld b 0 32)) 0 32 := by
  unfold StB
  rw [show StoreB 76 = true from by decide, if_pos rfl, cg_76, show SizeI 76 = 4 from by decide]
  rfl
theorem sti_76 (o a : Int) (qo : InU o) (qa : InU a) : InU (StB 76 o a) := by
  rw [stb_76]
  have q0 := in_fld _ 0 32 qo
  have q1 := in_fld _ 0 32 qa
  exact in_fld _ 0 32 (in_max _ _ q0 q1)
theorem at_76 (o a b : Int) (qo : InU o) (qa : InU a) (qb : InU b) : StB 76 (StB 76 o a) b = StB 76 (StB 76 o b) a := by
  rw [stb_76, stb_76, stb_76, stb_76]
  exact at_maxu o a b qo qa qb
theorem stb_80 (old b : Int) : StB 80 old b = Fld (IntKind.u64.wrap (old + b)) 0 64 := by
  unfold StB
  rw [show StoreB 80 = true from by decide, if_pos rfl, cg_80, show SizeI 80 = 8 from by decide]
  rfl
theorem sti_80 (o a : Int) (qo : InU o) (qa : InU a) : InU (StB 80 o a) := by
  rw [stb_80]
  have q0 := qo
  have q1 := qa
  exact in_fld _ 0 64 (in_wrap _)
theorem at_80 (o a b : Int) (qo : InU o) (qa : InU a) (qb : InU b) : StB 80 (StB 80 o a) b = StB 80 (StB 80 o b) a := by
  have p := sti_80 o a qo qa
  have r := sti_80 o b qo qb
  have p2 := sti_80 _ b p qb
  have r2 := sti_80 _ a r qa
  have f1 : ∀ x y : Int, InU x → InU y → StB 80 x y = IntKind.u64.wrap (x + y) := by
    intro x y q0 q1
    rw [stb_80, fld64 _ (in_wrap _)]
  rw [f1 _ _ p qb, f1 _ _ r qa, f1 _ _ qo qa, f1 _ _ qo qb]
  exact at_addd o a b
theorem stb_81 (old b : Int) : StB 81 old b = Fld (bits .xor .u64 old b) 0 64 := by
  unfold StB
  rw [show StoreB 81 = true from by decide, if_pos rfl, cg_81, show SizeI 81 = 8 from by decide]
  rfl
theorem sti_81 (o a : Int) (qo : InU o) (qa : InU a) : InU (StB 81 o a) := by
  rw [stb_81]
  have q0 := qo
  have q1 := qa
  exact in_fld _ 0 64 (in_xor _ _ q0 q1)
theorem at_81 (o a b : Int) (qo : InU o) (qa : InU a) (qb : InU b) : StB 81 (StB 81 o a) b = StB 81 (StB 81 o b) a := by
  have p := sti_81 o a qo qa
  have r := sti_81 o b qo qb
  have p2 := sti_81 _ b p qb
  have r2 := sti_81 _ a r qa
  have f1 : ∀ x y : Int, InU x → InU y → StB 81 x y = bits .xor .u64 x y := by
    intro x y q0 q1
    rw [stb_81, fld64 _ (in_xor _ _ q0 q1)]
  rw [f1 _ _ p qb, f1 _ _ r qa, f1 _ _ qo qa, f1 _ _ qo qb]
  exact at_xord o a b qo qa qb
theorem stb_82 (old b : Int) : StB 82 old b = Fld (bits .and .u64 old b) 0 64 := by
  unfold StB
  rw [show StoreB 82 = true from by decide, if_pos rfl, cg_82, show SizeI 82 = 8 from by decide]
  rfl
theorem sti_82 (o a : Int) (qo : InU o) (qa : InU a) : InU (StB 82 o a) := by
  rw [stb_82]
  have q0 := qo
  have q1 := qa
  exact in_fld _ 0 64 (in_and _ _ q0 q1)
theorem at_82 (o a b : Int) (qo : InU o) (qa : InU a) (qb : InU b) : StB 82 (StB 82 o a) b = StB 82 (StB 82 o b) a := by
  have p := sti_82 o a qo qa
  have r := sti_82 o b qo qb
  have p2 := sti_82 _ b p qb
  have r2 := sti_82 _ a r qa
  have f1 : ∀ x y : Int, InU x → InU y → StB 82 x y = bits .and .u64 x y := by
    intro x y q0 q1
    rw [stb_82, fld64 _ (in_and _ _ q0 q1)]
  rw [f1 _ _ p qb, f1 _ _ r qa, f1 _ _ qo qa, f1 _ _ qo qb]
  exact at_andd o a b qo qa qb
theorem stb_83 (old b : Int) : StB 83 old b = Fld (bits .or .u64 old b) 0 64 := by
  unfold StB
  rw [show StoreB 83 = true from by decide, if_pos rfl, cg_83, show SizeI 83 = 8 from by decide]
  rfl
theorem sti_83 (o a : Int) (qo : InU o) (qa : InU a) : InU (StB 83 o a) := by
  rw [stb_83]
  have q0 := qo
  have q1 := qa
  exact in_fld _ 0 64 (in_or _ _ q0 q1)
theorem at_83 (o a b : Int) (qo : InU o) (qa : InU a) (qb : InU b) : StB 83 (StB 83 o a) b = StB 83 (StB 83 o b) a := by
  have p := sti_83 o a qo qa
  have r := sti_83 o b qo qb
  have p2 := sti_83 _ b p qb
  have r2 := sti_83 _ a r qa
  have f1 : ∀ x y : Int, InU x → InU y → StB 83 x y = bits .or .u64 x y := by
    intro x y q0 q1
    rw [stb_83, fld64 _ (in_or _ _ q0 q1)]
  rw [f1 _ _ p qb, f1 _ _ r qa, f1 _ _ qo qa, f1 _ _ qo qb]
  exact at_ord o a b qo qa qb
theorem stb_84 (old b : Int) : StB 84 old b = Fld (PickI (LtS old b) old b) 0 64 := by
  unfold StB
  rw [show StoreB 84 = true from by decide, if_pos rfl, cg_84, show SizeI 84 = 8 from by decide]
  rfl
theorem sti_84 (o a : Int) (qo : InU o) (qa : InU a) : InU (StB 84 o a) := by
  rw [stb_84]
  have q0 := qo
  have q1 := qa
  exact in_fld _ 0 64 (in_pick _ _ _ q0 q1)
theorem at_84 (o a b : Int) (qo : InU o) (qa : InU a) (qb : InU b) : StB 84 (StB 84 o a) b = StB 84 (StB 84 o b) a := by
  have p := sti_84 o a qo qa
  have r := sti_84 o b qo qb
  have p2 := sti_84 _ b p qb
  have r2 := sti_84 _ a r qa
  have f1 : ∀ x y : Int, InU x → InU y → StB 84 x y = PickI (LtS x y) x y := by
    intro x y q0 q1
    rw [stb_84, fld64 _ (in_pick _ _ _ q0 q1)]
  rw [f1 _ _ p qb, f1 _ _ r qa, f1 _ _ qo qa, f1 _ _ qo qb]
  exact min_turn o a b qo qa qb
theorem stb_85 (old b : Int) : StB 85 old b = Fld (PickI (LtS old b) b old) 0 64 := by
  unfold StB
  rw [show StoreB 85 = true from by decide, if_pos rfl, cg_85, show SizeI 85 = 8 from by decide]
  rfl
theorem sti_85 (o a : Int) (qo : InU o) (qa : InU a) : InU (StB 85 o a) := by
  rw [stb_85]
  have q0 := qo
  have q1 := qa
  exact in_fld _ 0 64 (in_pick _ _ _ q1 q0)
theorem at_85 (o a b : Int) (qo : InU o) (qa : InU a) (qb : InU b) : StB 85 (StB 85 o a) b = StB 85 (StB 85 o b) a := by
  have p := sti_85 o a qo qa
  have r := sti_85 o b qo qb
  have p2 := sti_85 _ b p qb
  have r2 := sti_85 _ a r qa
  have f1 : ∀ x y : Int, InU x → InU y → StB 85 x y = PickI (LtS x y) y x := by
    intro x y q0 q1
    rw [stb_85, fld64 _ (in_pick _ _ _ q1 q0)]
  rw [f1 _ _ p qb, f1 _ _ r qa, f1 _ _ qo qa, f1 _ _ qo qb]
  exact max_turn o a b qo qa qb
theorem stb_86 (old b : Int) : StB 86 old b = Fld (MinI old b) 0 64 := by
  unfold StB
  rw [show StoreB 86 = true from by decide, if_pos rfl, cg_86, show SizeI 86 = 8 from by decide]
  rfl
theorem sti_86 (o a : Int) (qo : InU o) (qa : InU a) : InU (StB 86 o a) := by
  rw [stb_86]
  have q0 := qo
  have q1 := qa
  exact in_fld _ 0 64 (in_min _ _ q0 q1)
theorem at_86 (o a b : Int) (qo : InU o) (qa : InU a) (qb : InU b) : StB 86 (StB 86 o a) b = StB 86 (StB 86 o b) a := by
  have p := sti_86 o a qo qa
  have r := sti_86 o b qo qb
  have p2 := sti_86 _ b p qb
  have r2 := sti_86 _ a r qa
  have f1 : ∀ x y : Int, InU x → InU y → StB 86 x y = MinI x y := by
    intro x y q0 q1
    rw [stb_86, fld64 _ (in_min _ _ q0 q1)]
  rw [f1 _ _ p qb, f1 _ _ r qa, f1 _ _ qo qa, f1 _ _ qo qb]
  exact by unfold MinI; omega
theorem stb_87 (old b : Int) : StB 87 old b = Fld (MaxI old b) 0 64 := by
  unfold StB
  rw [show StoreB 87 = true from by decide, if_pos rfl, cg_87, show SizeI 87 = 8 from by decide]
  rfl
theorem sti_87 (o a : Int) (qo : InU o) (qa : InU a) : InU (StB 87 o a) := by
  rw [stb_87]
  have q0 := qo
  have q1 := qa
  exact in_fld _ 0 64 (in_max _ _ q0 q1)
theorem at_87 (o a b : Int) (qo : InU o) (qa : InU a) (qb : InU b) : StB 87 (StB 87 o a) b = StB 87 (StB 87 o b) a := by
  have p := sti_87 o a qo qa
  have r := sti_87 o b qo qb
  have p2 := sti_87 _ b p qb
  have r2 := sti_87 _ a r qa
  have f1 : ∀ x y : Int, InU x → InU y → StB 87 x y = MaxI x y := by
    intro x y q0 q1
    rw [stb_87, fld64 _ (in_max _ _ q0 q1)]
  rw [f1 _ _ p qb, f1 _ _ r qa, f1 _ _ qo qa, f1 _ _ qo qb]
  exact by unfold MaxI; omega
theorem at_any (k o a b : Int) (h : k = 69 ∨ k = 70 ∨ k = 71 ∨ k = 72 ∨ k = 73 ∨ k = 74 ∨ k = 75 ∨ k = 76 ∨ k = 80 ∨ k = 81 ∨ k = 82 ∨ k = 83 ∨ k = 84 ∨ k = 85 ∨ k = 86 ∨ k = 87) (qo : InU o) (qa : InU a) (qb : InU b) : StB k (StB k o a) b = StB k (StB k o b) a ∧ InU (StB k o a) ∧ InU (StB k o b) := by
  rcases h with rfl | rfl | rfl | rfl | rfl | rfl | rfl | rfl | rfl | rfl | rfl | rfl | rfl | rfl | rfl | rfl
  · exact ⟨at_69 o a b qo qa qb, sti_69 o a qo qa, sti_69 o b qo qb⟩
  · exact ⟨at_70 o a b qo qa qb, sti_70 o a qo qa, sti_70 o b qo qb⟩
  · exact ⟨at_71 o a b qo qa qb, sti_71 o a qo qa, sti_71 o b qo qb⟩
  · exact ⟨at_72 o a b qo qa qb, sti_72 o a qo qa, sti_72 o b qo qb⟩
  · exact ⟨at_73 o a b qo qa qb, sti_73 o a qo qa, sti_73 o b qo qb⟩
  · exact ⟨at_74 o a b qo qa qb, sti_74 o a qo qa, sti_74 o b qo qb⟩
  · exact ⟨at_75 o a b qo qa qb, sti_75 o a qo qa, sti_75 o b qo qb⟩
  · exact ⟨at_76 o a b qo qa qb, sti_76 o a qo qa, sti_76 o b qo qb⟩
  · exact ⟨at_80 o a b qo qa qb, sti_80 o a qo qa, sti_80 o b qo qb⟩
  · exact ⟨at_81 o a b qo qa qb, sti_81 o a qo qa, sti_81 o b qo qb⟩
  · exact ⟨at_82 o a b qo qa qb, sti_82 o a qo qa, sti_82 o b qo qb⟩
  · exact ⟨at_83 o a b qo qa qb, sti_83 o a qo qa, sti_83 o b qo qb⟩
  · exact ⟨at_84 o a b qo qa qb, sti_84 o a qo qa, sti_84 o b qo qb⟩
  · exact ⟨at_85 o a b qo qa qb, sti_85 o a qo qa, sti_85 o b qo qb⟩
  · exact ⟨at_86 o a b qo qa qb, sti_86 o a qo qa, sti_86 o b qo qb⟩
  · exact ⟨at_87 o a b qo qa qb, sti_87 o a qo qa, sti_87 o b qo qb⟩
end Go.Proofs.YtnifoghebnjonaaDoor

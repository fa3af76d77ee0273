/- Parts. -/
import Derived.Test.YtafkndnmhhjdhaaGreatDoorSDd
set_option linter.unusedSimpArgs false
set_option linter.unusedVariables false
set_option linter.unusedSectionVars false
namespace Go.Proofs.YtafkndnmhhjdhaaGreatDoor
open Go Go.Abs Go.RowKit Go.Clos
variable {w0 : World}
set_option maxRecDepth 8000 in
theorem toShape_at (σ : AHeap) (A B C : Int) : ACall Tryz.prog w0 32 [.agg #[.int .i64 A, .int .i64 B, .int .i64 C]] σ fun r σ' => r = .agg #[.int .i64 A, .int .i64 B, .int .i64 C] ∧ σ' = σ := by
 refine acall_goc mixed Tryz.func32 rfl goodc32 fun pr => ?_
 simp -implicitDefEqProofs (disch := omega) only [Nat.reduceEqDiff, ↓reduceIte, vcu, ↓vcd]
 refine r_boxed fun h1 τ1 n1 s1 e1 => ?_
 replace e1 : τ1 h1 = some ⟨[.int .i64 A, .int .i64 B, .int .i64 C], false⟩ := e1
 refine r_new ze29 fun h2 τ2 n2 s2 e2 => ?_
 replace e2 : τ2 h2 = some ⟨[.int .i64 0, .int .i64 0, .int .i64 0], false⟩ := e2
 simp -implicitDefEqProofs (disch := omega) only [Nat.reduceEqDiff, ↓reduceIte, vcu, ↓vcd]
 refine r_new ze29 fun h3 τ3 n3 s3 e3 => ?_
 replace e3 : τ3 h3 = some ⟨[.int .i64 0, .int .i64 0, .int .i64 0], false⟩ := e3
 have f1 := (s3 _ _ (s2 _ _ e1))
 have l1 : ld τ3 h1 (0 + 0) = some (.int .i64 A) := ld_of f1 rfl
 have d2 := ne_of n3 e2
 have d1 := ne_of n3 (s2 _ _ e1)
 have d12 := ne_of n2 e1
 simp -implicitDefEqProofs (disch := omega) only [Nat.reduceEqDiff, ↓reduceIte, vcu, ↓vcd, l1]
 refine r_set (g := h3) (i := 0) z9q z9r co3 z9r e3 (by simp) fun τ4 k4 e4 => ?_
 replace e4 : τ4 h3 = some ⟨[.int .i64 A, .int .i64 0, .int .i64 0], false⟩ := e4
 have l2 : ld τ4 h1 (0 + 1) = some (.int .i64 B) := ld_of (k4.at f1 d1.symm) rfl
 simp -implicitDefEqProofs (disch := omega) only [Nat.reduceEqDiff, ↓reduceIte, vcu, ↓vcd, l2]
 refine r_set (g := h3) (i := 1) z9q z9r co3 z9r e4 (by simp) fun τ5 k5 e5 => ?_
 replace e5 : τ5 h3 = some ⟨[.int .i64 A, .int .i64 B, .int .i64 0], false⟩ := e5
 have l3 : ld τ5 h1 (0 + 2) = some (.int .i64 C) := ld_of (k5.at (k4.at f1 d1.symm) d1.symm) rfl
 simp -implicitDefEqProofs (disch := omega) only [Nat.reduceEqDiff, ↓reduceIte, vcu, ↓vcd, l3]
 refine r_set (g := h3) (i := 2) z9q z9r co3 z9r e5 (by simp) fun τ6 k6 e6 => ?_
 replace e6 : τ6 h3 = some ⟨[.int .i64 A, .int .i64 B, .int .i64 C], false⟩ := e6
 have l4 : lds τ6 h3 0 3 = some [.int .i64 A, .int .i64 B, .int .i64 C] := lds_three (ld_of e6 rfl) (ld_of e6 rfl) (ld_of e6 rfl)
 have f2 := k6.at (k5.at (k4.at (s3 _ _ e2) d2.symm) d2.symm) d2.symm
 simp -implicitDefEqProofs (disch := omega) only [Nat.reduceEqDiff, ↓reduceIte, vcu, ↓vcd, l4, co29]
 refine r_sets (g := h2) (i := 0) (C := [.int .i64 0, .int .i64 0, .int .i64 0]) z9q z9co29 z9r z9z f2 z9l fun τ7 k7 e7 => ?_
 replace e7 : τ7 h2 = some ⟨[.int .i64 A, .int .i64 B, .int .i64 C], false⟩ := e7
 have l5 : lds τ7 h2 0 3 = some [.int .i64 A, .int .i64 B, .int .i64 C] := lds_three (ld_of e7 rfl) (ld_of e7 rfl) (ld_of e7 rfl)
 simp -implicitDefEqProofs (disch := omega) only [Nat.reduceEqDiff, ↓reduceIte, vcu, ↓vcd]
 refine fin_cell Tryz.results32 σ ?_ (v := .agg #[.int .i64 A, .int .i64 B, .int .i64 C]) (by simp -implicitDefEqProofs (disch := omega) only [Nat.reduceEqDiff, ↓reduceIte, vcu, ↓vcd, l5, co29]) ⟨rfl, rfl⟩
 have q3 : Sub σ τ3 := s1.trans (s2.trans s3)
 have z3 : σ h3 = none := free_sub (s1.trans s2) n3
 have z2 : σ h2 = none := free_sub s1 n2
 exact k7.sub (k6.sub (k5.sub (k4.sub q3 z3) z3) z3) z2
set_option maxRecDepth 8000 in
theorem toCall_at (σ : AHeap) (A B C : Int) : ACall Tryz.prog w0 51 [.agg #[.int .i64 A, .int .i64 B, .int .i64 C]] σ fun r σ' => r = .agg #[.int .i64 A, .int .i64 B, .int .i64 C] ∧ σ' = σ := by
 refine acall_goc mixed Tryz.func51 rfl goodc51 fun pr => ?_
 simp -implicitDefEqProofs (disch := omega) only [Nat.reduceEqDiff, ↓reduceIte, vcu, ↓vcd]
 refine r_boxed fun h1 τ1 n1 s1 e1 => ?_
 replace e1 : τ1 h1 = some ⟨[.int .i64 A, .int .i64 B, .int .i64 C], false⟩ := e1
 refine r_new ze76 fun h2 τ2 n2 s2 e2 => ?_
 replace e2 : τ2 h2 = some ⟨[.int .i64 0, .int .i64 0, .int .i64 0], false⟩ := e2
 simp -implicitDefEqProofs (disch := omega) only [Nat.reduceEqDiff, ↓reduceIte, vcu, ↓vcd]
 refine r_new ze76 fun h3 τ3 n3 s3 e3 => ?_
 replace e3 : τ3 h3 = some ⟨[.int .i64 0, .int .i64 0, .int .i64 0], false⟩ := e3
 have f1 := (s3 _ _ (s2 _ _ e1))
 have l1 : ld τ3 h1 (0 + 0) = some (.int .i64 A) := ld_of f1 rfl
 have d2 := ne_of n3 e2
 have d1 := ne_of n3 (s2 _ _ e1)
 have d12 := ne_of n2 e1
 simp -implicitDefEqProofs (disch := omega) only [Nat.reduceEqDiff, ↓reduceIte, vcu, ↓vcd, l1]
 refine r_set (g := h3) (i := 0) z9q z9r co3 z9r e3 (by simp) fun τ4 k4 e4 => ?_
 replace e4 : τ4 h3 = some ⟨[.int .i64 A, .int .i64 0, .int .i64 0], false⟩ := e4
 have l2 : ld τ4 h1 (0 + 1) = some (.int .i64 B) := ld_of (k4.at f1 d1.symm) rfl
 simp -implicitDefEqProofs (disch := omega) only [Nat.reduceEqDiff, ↓reduceIte, vcu, ↓vcd, l2]
 refine r_set (g := h3) (i := 1) z9q z9r co3 z9r e4 (by simp) fun τ5 k5 e5 => ?_
 replace e5 : τ5 h3 = some ⟨[.int .i64 A, .int .i64 B, .int .i64 0], false⟩ := e5
 have l3 : ld τ5 h1 (0 + 2) = some (.int .i64 C) := ld_of (k5.at (k4.at f1 d1.symm) d1.symm) rfl
 simp -implicitDefEqProofs (disch := omega) only [Nat.reduceEqDiff, ↓reduceIte, vcu, ↓vcd, l3]
 refine r_set (g := h3) (i := 2) z9q z9r co3 z9r e5 (by simp) fun τ6 k6 e6 => ?_
 replace e6 : τ6 h3 = some ⟨[.int .i64 A, .int .i64 B, .int .i64 C], false⟩ := e6
 have l4 : lds τ6 h3 0 3 = some [.int .i64 A, .int .i64 B, .int .i64 C] := lds_three (ld_of e6 rfl) (ld_of e6 rfl) (ld_of e6 rfl)
 have f2 := k6.at (k5.at (k4.at (s3 _ _ e2) d2.symm) d2.symm) d2.symm
 simp -implicitDefEqProofs (disch := omega) only [Nat.reduceEqDiff, ↓reduceIte, vcu, ↓vcd, l4, co76]
 refine r_sets (g := h2) (i := 0) (C := [.int .i64 0, .int .i64 0, .int .i64 0]) z9q z9co76 z9r z9z f2 z9l fun τ7 k7 e7 => ?_
 replace e7 : τ7 h2 = some ⟨[.int .i64 A, .int .i64 B, .int .i64 C], false⟩ := e7
 have l5 : lds τ7 h2 0 3 = some [.int .i64 A, .int .i64 B, .int .i64 C] := lds_three (ld_of e7 rfl) (ld_of e7 rfl) (ld_of e7 rfl)
 simp -implicitDefEqProofs (disch := omega) only [Nat.reduceEqDiff, ↓reduceIte, vcu, ↓vcd]
 refine fin_cell Tryz.results51 σ ?_ (v := .agg #[.int .i64 A, .int .i64 B, .int .i64 C]) (by simp -implicitDefEqProofs (disch := omega) only [Nat.reduceEqDiff, ↓reduceIte, vcu, ↓vcd, l5, co76]) ⟨rfl, rfl⟩
 have q3 : Sub σ τ3 := s1.trans (s2.trans s3)
 have z3 : σ h3 = none := free_sub (s1.trans s2) n3
 have z2 : σ h2 = none := free_sub s1 n2
 exact k7.sub (k6.sub (k5.sub (k4.sub q3 z3) z3) z3) z2
set_option maxRecDepth 8000 in
theorem eqCall_at (σ : AHeap) (A B C D E F : Int) : ACall Tryz.prog w0 70 [.agg #[.int .i64 A, .int .i64 B, .int .i64 C], .agg #[.int .i64 D, .int .i64 E, .int .i64 F]] σ fun r σ' => r = .bool (decide ((⟨A, B, C⟩ : Cl) = ⟨D, E, F⟩)) ∧ σ' = σ := by
 refine acall_go mixed Tryz.func70 rfl good70 fun pr => ?_
 simp -implicitDefEqProofs (disch := omega) only [Nat.reduceEqDiff, ↓reduceIte, vcu, ↓vcd]
 refine r_boxed fun h1 τ1 n1 s1 e1 => ?_
 replace e1 : τ1 h1 = some ⟨[.int .i64 A, .int .i64 B, .int .i64 C], false⟩ := e1
 refine r_boxed fun h2 τ2 n2 s2 e2 => ?_
 replace e2 : τ2 h2 = some ⟨[.int .i64 D, .int .i64 E, .int .i64 F], false⟩ := e2
 have f1 := s2 _ _ e1
 have a1 : ld τ2 h1 (0 + 0) = some (.int .i64 A) := ld_of f1 rfl
 have a2 : ld τ2 h1 (0 + 1) = some (.int .i64 B) := ld_of f1 rfl
 have a3 : ld τ2 h1 (0 + 2) = some (.int .i64 C) := ld_of f1 rfl
 have b1 : ld τ2 h2 (0 + 0) = some (.int .i64 D) := ld_of e2 rfl
 have b2 : ld τ2 h2 (0 + 1) = some (.int .i64 E) := ld_of e2 rfl
 have b3 : ld τ2 h2 (0 + 2) = some (.int .i64 F) := ld_of e2 rfl
 by_cases h1 : A = D
 ·by_cases h2 : B = E
  ·by_cases h3 : C = F
   ·simp -implicitDefEqProofs (disch := omega) only [Nat.reduceEqDiff, ↓reduceIte, vcu, ↓vcd, a1, a2, a3, b1, b2, b3]
    refine fin_drop Tryz.results70 σ (s1.trans s2) ⟨?_, rfl⟩
    simp -implicitDefEqProofs (disch := omega) only [Nat.reduceEqDiff, ↓reduceIte, vcu, ↓vcd]
    simp [h1, h2, h3]
   ·simp -implicitDefEqProofs (disch := omega) only [Nat.reduceEqDiff, ↓reduceIte, vcu, ↓vcd, a1, a2, a3, b1, b2, b3]
    refine fin_drop Tryz.results70 σ (s1.trans s2) ⟨?_, rfl⟩
    simp -implicitDefEqProofs (disch := omega) only [Nat.reduceEqDiff, ↓reduceIte, vcu, ↓vcd]
    simp [h1, h2, h3]
  ·simp -implicitDefEqProofs (disch := omega) only [Nat.reduceEqDiff, ↓reduceIte, vcu, ↓vcd, a1, a2, a3, b1, b2, b3]
   refine fin_drop Tryz.results70 σ (s1.trans s2) ⟨?_, rfl⟩
   simp -implicitDefEqProofs (disch := omega) only [Nat.reduceEqDiff, ↓reduceIte, vcu, ↓vcd]
   simp [h1, h2]
 ·simp -implicitDefEqProofs (disch := omega) only [Nat.reduceEqDiff, ↓reduceIte, vcu, ↓vcd, a1, a2, a3, b1, b2, b3]
  refine fin_drop Tryz.results70 σ (s1.trans s2) ⟨?_, rfl⟩
  simp -implicitDefEqProofs (disch := omega) only [Nat.reduceEqDiff, ↓reduceIte, vcu, ↓vcd]
  simp [h1]
set_option maxRecDepth 8000 in
theorem szCalls_at (σ : AHeap) (h o : Nat) (cs : List Cl) (n : Int) (hn : 0 ≤ n ∧ n ≤ 1048576) (hm : cs.length ≤ maxLen) :
  ACall Tryz.prog w0 19 [.slice (some ⟨h, o, none⟩) cs.length 3, .int .i64 n] σ fun r σ' => r = .int .i64 (if n < cs.length then -1 else n - cs.length) ∧ σ' = σ := by
 unfold maxLen at hm
 refine acall_go mixed Tryz.func19 rfl good19 fun pr => ?_
 by_cases h1 : n < cs.length
 ·simp -implicitDefEqProofs (disch := omega) only [Nat.reduceEqDiff, ↓reduceIte, vcu, ↓vcd]
  refine fin_one Tryz.results19 ⟨?_, rfl⟩
  simp -implicitDefEqProofs (disch := omega) only [Nat.reduceEqDiff, ↓reduceIte, vcu, ↓vcd]
  rw [if_pos h1]
 ·simp -implicitDefEqProofs (disch := omega) only [Nat.reduceEqDiff, ↓reduceIte, vcu, ↓vcd]
  refine fin_one Tryz.results19 ⟨?_, rfl⟩
  simp -implicitDefEqProofs (disch := omega) only [Nat.reduceEqDiff, ↓reduceIte, vcu, ↓vcd]
  rw [if_neg h1]
theorem azeros_tris (l : Nat) : azeros (.agg #[.int .i64 0, .int .i64 0, .int .i64 0]) (l * 3) = tris (List.replicate l cl0) := by
 apply List.ext_getElem?
 intro j
 by_cases hj : j < l * 3
 ·obtain ⟨q, r, rfl, hr⟩ : ∃ q r, j = q * 3 + r ∧ r < 3 := ⟨j / 3, j % 3, by omega, by omega⟩
  have hq : q < l := by omega
  have g := tris_get (List.replicate l cl0) q (by simpa using hq)
  have e : (List.replicate l cl0).getD q cl0 = cl0 := by simp [List.getD, hq]
  rw [e] at g
  have hr' : r = 0 ∨ r = 1 ∨ r = 2 := by omega
  rcases hr' with rfl | rfl | rfl
  ·rw [Nat.add_zero, g.1]
   have : q * 3 % 3 = 0 := by omega
   simp [azeros, madeCells, Value.cells, this, hq, cl0]
  ·rw [g.2.1]
   have h1 : q * 3 + 1 < l * 3 := by omega
   have : (q * 3 + 1) % 3 = 1 := by omega
   simp [azeros, madeCells, Value.cells, this, h1, cl0]
  ·rw [g.2.2]
   have h1 : q * 3 + 2 < l * 3 := by omega
   have : (q * 3 + 2) % 3 = 2 := by omega
   simp [azeros, madeCells, Value.cells, this, h1, cl0]
 ·rw [List.getElem?_eq_none (by rw [azeros_length]; omega), List.getElem?_eq_none (by rw [tris_length]; simp; omega)]
/-- a whole record is written -/
theorem tris_write : ∀ (cs : List Cl) (i : Nat), i < cs.length → ∀ c : Cl, lwrite (tris cs) (i * 3) [.int .i64 c.i, .int .i64 c.o, .int .i64 c.v] = tris (cs.set i c) := by
 intro cs i h c
 have hl := tris_length cs
 apply List.ext_getElem?
 intro j
 rw [lwrite_get _ _ _ (by simp; omega)]
 by_cases hj : j < cs.length * 3
 ·obtain ⟨q, r, rfl, hr⟩ : ∃ q r, j = q * 3 + r ∧ r < 3 := ⟨j / 3, j % 3, by omega, by omega⟩
  have hq : q < cs.length := by omega
  have g := tris_get (cs.set i c) q (by simpa using hq)
  have g0 := tris_get cs q hq
  have hget : (cs.set i c).getD q cl0 = if i = q then c else cs.getD q cl0 := by
   simp only [List.getD, List.getElem?_set]
   by_cases e : i = q
   ·subst e; simp [h]
   ·simp [e]
  rw [hget] at g
  have hr' : r = 0 ∨ r = 1 ∨ r = 2 := by omega
  rcases hr' with rfl | rfl | rfl
  ·rw [Nat.add_zero, g.1]
   by_cases e : i = q
   ·subst e; rw [if_pos ⟨Nat.le_refl _, by simp⟩, if_pos rfl]; simp
   ·rw [if_neg (by simp; omega), if_neg e]; exact g0.1
  ·rw [g.2.1]
   by_cases e : i = q
   ·subst e; rw [if_pos ⟨by omega, by simp⟩, if_pos rfl]; simp
   ·rw [if_neg (by simp; omega), if_neg e]; exact g0.2.1
  ·rw [g.2.2]
   by_cases e : i = q
   ·subst e; rw [if_pos ⟨by omega, by simp⟩, if_pos rfl]; simp
   ·rw [if_neg (by simp; omega), if_neg e]; exact g0.2.2
 ·rw [if_neg (by simp; omega), List.getElem?_eq_none (by omega), List.getElem?_eq_none (by rw [tris_length]; simp; omega)]
set_option maxRecDepth 8000 in
theorem toCalls_at (σ : AHeap) (h o : Nat) (cs : List Cl) (hv : TrisAt σ h o cs) (hl : cs.length ≤ 1048576) :
  ACall Tryz.prog w0 33 [.slice (some ⟨h, o, none⟩) cs.length 3] σ fun r σ' => ∃ g, σ g = none ∧ r = .slice (some ⟨g, 0, none⟩) cs.length 3 ∧ Sub σ σ' ∧ σ' g = some ⟨tris cs, false⟩ := by
 refine acall_go mixed Tryz.func33 rfl good33 fun pr => ?_
 simp -implicitDefEqProofs (disch := omega) only [Nat.reduceEqDiff, ↓reduceIte, vcu, ↓vcd]
 refine r_make (kx := .i64) (ky := .i64) (l := cs.length) (c := cs.length) el30 z9q z9q (by omega) fun g τ hg hs he => ?_
 rw [azeros_tris] at he
 simp -implicitDefEqProofs (disch := omega) only [Nat.reduceEqDiff, ↓reduceIte, vcu, ↓vcd]
 refine vc_loop_c mixed (by kernel_rfl) [0, 3] (fun m a σ' => ∃ k : Nat, m + k = cs.length ∧ a 4 = .int .i64 k ∧ Kept g τ σ' ∧ σ' g = some ⟨tris (cs.take k ++ List.replicate (cs.length - k) cl0), false⟩) cs.length ⟨0, by simp, rfl, Kept.refl _ _, by simpa using he⟩ ?_
 rintro m a σ' hc ⟨k, hk, h4, hkp, hgk⟩
 simp -implicitDefEqProofs (disch := omega) only [Nat.reduceEqDiff, ↓reduceIte, vcu, ↓vcd] at hc
 obtain ⟨h0, h3, -⟩ := hc
 have hsub := hkp.sub hs hg
 by_cases hlt : k < cs.length
 ·have hx := (hv.sub hsub).all hlt
  have hst := set_at cs cl0 hlt rfl
  generalize cs.getD k cl0 = c at hx hst
  obtain ⟨A, B, C⟩ := c
  simp -implicitDefEqProofs (disch := omega) only [Nat.reduceEqDiff, ↓reduceIte, vcu, ↓vcd, h0, h3, h4, hx, co76, co84]
  refine (toCall_at _ A B C).mono ?_
  rintro r _ ⟨rfl, rfl⟩
  simp -implicitDefEqProofs (disch := omega) only [Nat.reduceEqDiff, ↓reduceIte, vcu, ↓vcd, opK_some, h0, h3, h4]
  refine r_sets (g := g) (i := 0 + k * 3) (by simp -implicitDefEqProofs (disch := omega) only [Nat.reduceEqDiff, ↓reduceIte, vcu, ↓vcd, h3, h4]) z9co76 z9r z9z hgk (by simp -implicitDefEqProofs (disch := omega) only [Nat.reduceEqDiff, ↓reduceIte, vcu, ↓vcd]; rw [tris_length]; simp [Value.cells]; omega) fun τ2 k2 e2 => ?_
  replace e2 : τ2 g = some ⟨lwrite (tris (cs.take k ++ List.replicate (cs.length - k) cl0)) (0 + k * 3) [.int .i64 A, .int .i64 B, .int .i64 C], false⟩ := e2
  have hw := tris_write (cs.take k ++ List.replicate (cs.length - k) cl0) k (by simp; omega) ⟨A, B, C⟩
  rw [Nat.zero_add, hw, hst] at e2
  simp -implicitDefEqProofs (disch := omega) only [Nat.reduceEqDiff, ↓reduceIte, vcu, ↓vcd, h0, h3, h4]
  exact ⟨⟨trivial, trivial, trivial⟩, m - 1, by omega, k + 1, by omega, by simp, hkp.trans k2, e2⟩
 ·simp -implicitDefEqProofs (disch := omega) only [Nat.reduceEqDiff, ↓reduceIte, vcu, ↓vcd, h0, h3, h4]
  have e2 : k = cs.length := by omega
  subst e2
  refine fin_one Tryz.results33 ⟨g, hg, ?_, hsub, by simpa using hgk⟩
  simp -implicitDefEqProofs (disch := omega) only [Nat.reduceEqDiff, ↓reduceIte, vcu, ↓vcd, h3]
theorem list_eq {xs ys : List Cl} (hlen : xs.length = ys.length) (he : ∀ j, j < xs.length → xs.getD j cl0 = ys.getD j cl0) : xs = ys := by
 apply List.ext_getElem hlen
 intro i h1 h2
 have := he i h1
 simpa [List.getD, h1, h2] using this
set_option maxRecDepth 8000 in
theorem eqCalls_at (σ : AHeap) (h o g p : Nat) (xs ys : List Cl) (hv : TrisAt σ h o xs) (hu : TrisAt σ g p ys) (hl : xs.length ≤ 1048576) (hl2 : ys.length ≤ 1048576) :
  ACall Tryz.prog w0 39 [.slice (some ⟨h, o, none⟩) xs.length 3, .slice (some ⟨g, p, none⟩) ys.length 3] σ fun r σ' => r = .bool (decide (xs = ys)) ∧ σ' = σ := by
 refine acall_go mixed Tryz.func39 rfl good39 fun pr => ?_
 by_cases hlen : xs.length = ys.length
 ·simp -implicitDefEqProofs (disch := omega) only [Nat.reduceEqDiff, ↓reduceIte, vcu, ↓vcd]
  refine vc_loop_c mixed (by kernel_rfl) [0, 1] (fun m a σ' => ∃ k : Nat, m + k = xs.length ∧ a 5 = .int .i64 k ∧ σ' = σ ∧ ∀ j, j < k → xs.getD j cl0 = ys.getD j cl0) xs.length ⟨0, by simp, rfl, rfl, by simp⟩ ?_
  rintro m a σ' hc ⟨k, hk, h5, rfl, he⟩
  simp -implicitDefEqProofs (disch := omega) only [Nat.reduceEqDiff, ↓reduceIte, vcu, ↓vcd] at hc
  obtain ⟨h0, h1, -⟩ := hc
  by_cases hlt : k < xs.length
  ·have hx := hv.all hlt
   have hy := hu.all (show k < ys.length by omega)
   generalize hcx : xs.getD k cl0 = c at hx
   generalize hcy : ys.getD k cl0 = d at hy
   obtain ⟨A, B, C⟩ := c
   obtain ⟨D, E, F⟩ := d
   simp -implicitDefEqProofs (disch := omega) only [Nat.reduceEqDiff, ↓reduceIte, vcu, ↓vcd, h0, h1, h5, hx, hy, co76]
   rw [r_callq]
   refine ⟨_, eqCall_at _ A B C D E F, ?_⟩
   by_cases hxy : (⟨A, B, C⟩ : Cl) = ⟨D, E, F⟩
   ·rw [decide_eq_true hxy]
    simp -implicitDefEqProofs (disch := omega) only [Nat.reduceEqDiff, ↓reduceIte, vcu, ↓vcd, h0, h1, h5]
    refine ⟨⟨trivial, trivial, trivial⟩, m - 1, by omega, k + 1, by omega, by simp, trivial, fun j hj => ?_⟩
    by_cases e : j = k
    ·subst e; rw [hcx, hcy]; exact hxy
    ·exact he j (by omega)
   ·rw [decide_eq_false hxy]
    simp -implicitDefEqProofs (disch := omega) only [Nat.reduceEqDiff, ↓reduceIte, vcu, ↓vcd, h0, h1, h5]
    refine fin_one Tryz.results39 ⟨?_, rfl⟩
    simp -implicitDefEqProofs (disch := omega) only [Nat.reduceEqDiff, ↓reduceIte, vcu, ↓vcd]
    have : xs ≠ ys := fun e => hxy (by rw [← hcx, ← hcy, e])
    simp [this]
  ·simp -implicitDefEqProofs (disch := omega) only [Nat.reduceEqDiff, ↓reduceIte, vcu, ↓vcd, h0, h1, h5]
   refine fin_one Tryz.results39 ⟨?_, rfl⟩
   simp -implicitDefEqProofs (disch := omega) only [Nat.reduceEqDiff, ↓reduceIte, vcu, ↓vcd]
   have : xs = ys := list_eq hlen fun j hj => he j (by omega)
   simp [this]
 ·simp -implicitDefEqProofs (disch := omega) only [Nat.reduceEqDiff, ↓reduceIte, vcu, ↓vcd]
  refine fin_one Tryz.results39 ⟨?_, rfl⟩
  simp -implicitDefEqProofs (disch := omega) only [Nat.reduceEqDiff, ↓reduceIte, vcu, ↓vcd]
  have : xs ≠ ys := fun e => hlen (by rw [e])
  simp [this]
theorem eqCalls_calls (σ : AHeap) (v u : Value) (xs ys : List Cl) (hv : Tris σ v xs) (hu : Tris σ u ys) (hl : xs.length ≤ 1048576) (hl2 : ys.length ≤ 1048576) :
  ACall Tryz.prog w0 39 [v, u] σ fun r σ' => r = .bool (decide (xs = ys)) ∧ σ' = σ :=
 ACall.tris_quiet (pre := []) (post := [u]) (by kernel_rfl) hv fun σ1 h o hs hg =>
  ACall.tris_quiet (pre := [_]) (post := []) (by kernel_rfl) (hu.sub hs) fun σ2 g p hs2 hg2 => eqCalls_at σ2 h o g p xs ys (hg.sub hs2) hg2 hl hl2
def marks3 (n : Nat) (k : Int) : List Cl := (List.range n).map fun (i : Nat) => ⟨k + 3 * i, k + 3 * i + 1, k + 3 * i + 1 + 1⟩
theorem marks3_length (n : Nat) (k : Int) : (marks3 n k).length = n := by simp [marks3]
theorem marks3_getD {n i : Nat} {k : Int} (h : i < n) : (marks3 n k).getD i cl0 = ⟨k + 3 * i, k + 3 * i + 1, k + 3 * i + 1 + 1⟩ := by simp [marks3, List.getD, h]
theorem marks3_succ (n : Nat) (k : Int) : marks3 (n + 1) k = marks3 n k ++ [⟨k + 3 * n, k + 3 * n + 1, k + 3 * n + 1 + 1⟩] := by simp [marks3, List.range_succ]
theorem setC_drop (A xs : List Cl) (v : Cl) {i : Nat} (hA : A.length = i) (h : i < xs.length) : (A ++ xs.drop i).set i v = A ++ [v] ++ xs.drop (i + 1) := by
 rw [List.set_append_right _ _ (by omega), hA, Nat.sub_self, List.drop_eq_getElem_cons h, List.set_cons_zero, List.append_assoc]; rfl
theorem setC_mid (A D : List Cl) (u v : Cl) {i : Nat} (hA : A.length = i) : (A ++ [u] ++ D).set i v = A ++ [v] ++ D ∧ (A ++ [u] ++ D).getD i cl0 = u := by
 subst hA
 refine ⟨?_, by simp [List.getD]⟩
 rw [List.append_assoc, List.set_append_right _ _ (Nat.le_refl _), Nat.sub_self, List.singleton_append, List.set_cons_zero, List.append_assoc]; rfl
set_option maxRecDepth 8000 in
theorem markC_own (σ : AHeap) (g : Nat) (cs : List Cl) (k : Int) (hg : σ g = some ⟨tris cs, false⟩) (hl : cs.length ≤ 1048576) (hk : 0 ≤ k ∧ k ≤ 1099511627776) :
  ACall Tryz.prog w0 40 [.slice (some ⟨g, 0, none⟩) cs.length 3, .int .i64 k] σ fun r σ' => r = .int .i64 (k + 3 * cs.length) ∧ Kept g σ σ' ∧ σ' g = some ⟨tris (marks3 cs.length k), false⟩ := by
 refine acall_go mixed Tryz.func40 rfl good40 fun pr => ?_
 simp -implicitDefEqProofs (disch := omega) only [Nat.reduceEqDiff, ↓reduceIte, vcu, ↓vcd]
 refine vc_loop_c mixed (by kernel_rfl) [0] (fun m a σ' => ∃ i : Nat, m + i = cs.length ∧ a 1 = .int .i64 (k + 3 * i) ∧ a 5 = .int .i64 i ∧ Kept g σ σ' ∧ σ' g = some ⟨tris (marks3 i k ++ cs.drop i), false⟩) cs.length ⟨0, by simp, by simp [fset, aenter], rfl, Kept.refl _ _, by simpa [marks3] using hg⟩ ?_
 rintro m a σ' hc ⟨i, hi, h1, h5, hkp, hgk⟩
 simp -implicitDefEqProofs (disch := omega) only [Nat.reduceEqDiff, ↓reduceIte, vcu, ↓vcd] at hc
 obtain ⟨h0, -⟩ := hc
 by_cases hlt : i < cs.length
 ·have hl2 : (marks3 i k ++ cs.drop i).length = cs.length := by simp [marks3_length]; omega
  have hml := marks3_length i k
  simp -implicitDefEqProofs (disch := omega) only [Nat.reduceEqDiff, ↓reduceIte, vcu, ↓vcd, h0, h1, h5]
  refine r_set (g := g) (i := i * 3) (by simp -implicitDefEqProofs (disch := omega) only [Nat.reduceEqDiff, ↓reduceIte, vcu, ↓vcd, Nat.zero_add, Nat.add_zero]) z9r co3 z9r hgk (by rw [tris_length, hl2]; omega) fun τ1 k1 e1 => ?_
  simp -implicitDefEqProofs (disch := omega) only [Nat.reduceEqDiff, ↓reduceIte, vcu, ↓vcd] at e1
  rw [(tris_set _ i (by omega) _).1, setC_drop _ _ _ hml hlt] at e1
  generalize (marks3 i k ++ cs.drop i).getD i cl0 = c at e1
  have hl3 : ∀ u : Cl, (marks3 i k ++ [u] ++ cs.drop (i + 1)).length = cs.length := fun u => by simp [marks3_length]; omega
  simp -implicitDefEqProofs (disch := omega) only [Nat.reduceEqDiff, ↓reduceIte, vcu, ↓vcd, h0, h1, h5]
  refine r_set (g := g) (i := i * 3 + 1) (by simp -implicitDefEqProofs (disch := omega) only [Nat.reduceEqDiff, ↓reduceIte, vcu, ↓vcd, Nat.zero_add]) z9r co3 z9r e1 (by rw [tris_length, hl3]; omega) fun τ2 k2 e2 => ?_
  simp -implicitDefEqProofs (disch := omega) only [Nat.reduceEqDiff, ↓reduceIte, vcu, ↓vcd] at e2
  rw [(tris_set _ i (by rw [hl3]; omega) _).2.1, (setC_mid _ _ _ _ hml).1, (setC_mid _ _ _ cl0 hml).2] at e2
  dsimp only at e2
  simp -implicitDefEqProofs (disch := omega) only [Nat.reduceEqDiff, ↓reduceIte, vcu, ↓vcd, h0, h1, h5]
  refine r_set (g := g) (i := i * 3 + 2) (by simp -implicitDefEqProofs (disch := omega) only [Nat.reduceEqDiff, ↓reduceIte, vcu, ↓vcd, Nat.zero_add]) z9r co3 z9r e2 (by rw [tris_length, hl3]; omega) fun τ3 k3 e3 => ?_
  simp -implicitDefEqProofs (disch := omega) only [Nat.reduceEqDiff, ↓reduceIte, vcu, ↓vcd] at e3
  rw [(tris_set _ i (by rw [hl3]; omega) _).2.2, (setC_mid _ _ _ _ hml).1, (setC_mid _ _ _ cl0 hml).2] at e3
  dsimp only at e3
  rw [← marks3_succ] at e3
  simp -implicitDefEqProofs (disch := omega) only [Nat.reduceEqDiff, ↓reduceIte, vcu, ↓vcd, h0, h1, h5]
  refine ⟨⟨trivial, trivial⟩, m - 1, by omega, i + 1, by omega, ?_, by simp, ((hkp.trans k1).trans k2).trans k3, e3⟩
  congr 1; omega
 ·simp -implicitDefEqProofs (disch := omega) only [Nat.reduceEqDiff, ↓reduceIte, vcu, ↓vcd, h0, h1, h5]
  have e : i = cs.length := by omega
  subst e
  refine fin_one Tryz.results40 ⟨?_, hkp, by simpa using hgk⟩
  simp -implicitDefEqProofs (disch := omega) only [Nat.reduceEqDiff, ↓reduceIte, vcu, ↓vcd, h1]
set_option maxRecDepth 8000 in
theorem heldC_at (σ : AHeap) (g o n : Nat) (k : Int) (hv : TrisAt σ g o (marks3 n k)) (hl : n ≤ 1048576) (hk : 0 ≤ k ∧ k ≤ 1099511627776) :
  ACall Tryz.prog w0 41 [.slice (some ⟨g, o, none⟩) n 3, .int .i64 k] σ fun r σ' => r = .int .i64 (k + 3 * n) ∧ σ' = σ := by
 refine acall_go mixed Tryz.func41 rfl good41 fun pr => ?_
 simp -implicitDefEqProofs (disch := omega) only [Nat.reduceEqDiff, ↓reduceIte, vcu, ↓vcd]
 refine vc_loop_c mixed (by kernel_rfl) [0] (fun m a σ' => ∃ i : Nat, m + i = n ∧ a 1 = .int .i64 (k + 3 * i) ∧ a 5 = .int .i64 i ∧ σ' = σ) n ⟨0, by simp, by simp [fset, aenter], rfl, rfl⟩ ?_
 rintro m a σ' hc ⟨i, hi, h1, h5, rfl⟩
 simp -implicitDefEqProofs (disch := omega) only [Nat.reduceEqDiff, ↓reduceIte, vcu, ↓vcd] at hc
 obtain ⟨h0, -⟩ := hc
 by_cases hlt : i < n
 ·obtain ⟨q1, q2, q3⟩ := hv i (by rw [marks3_length]; exact hlt)
  rw [marks3_getD hlt] at q1 q2 q3
  dsimp only at q1 q2 q3
  simp -implicitDefEqProofs (disch := omega) only [Nat.reduceEqDiff, ↓reduceIte, vcu, ↓vcd, h0, h1, h5, q1, q2, q3, Nat.add_zero]
  refine ⟨⟨trivial, trivial⟩, m - 1, by omega, i + 1, by omega, ?_, by simp, trivial⟩
  congr 1; omega
 ·simp -implicitDefEqProofs (disch := omega) only [Nat.reduceEqDiff, ↓reduceIte, vcu, ↓vcd, h0, h1, h5]
  have e : i = n := by omega
  subst e
  refine fin_one Tryz.results41 ⟨?_, rfl⟩
  simp -implicitDefEqProofs (disch := omega) only [Nat.reduceEqDiff, ↓reduceIte, vcu, ↓vcd, h1]
/-- marks, whatever the row -/
theorem markC_calls (β σ : AHeap) (v : Value) (cs : List Cl) (k : Int) (hv : OwnC β σ v cs) (hl : cs.length ≤ 1048576) (hk : 0 ≤ k ∧ k ≤ 1099511627776) :
  ACall Tryz.prog w0 40 [v, .int .i64 k] σ fun r σ' => r = .int .i64 (k + 3 * cs.length) ∧ OwnC β σ' v (marks3 cs.length k) ∧ (∀ h ob, β h = some ob → σ h = some ob → σ' h = some ob) := by
 rcases hv with ⟨rfl, rfl⟩ | ⟨g, rfl, hg, hn⟩
 ·refine ACall.nil_arg (pre := []) (z := 3) (by kernel_rfl) fun g hg => ?_
  refine (markC_own _ g [] k (AHeap.upd_same _ _ _) (by simp) hk).mono ?_
  rintro r σ' ⟨rfl, h1, h2⟩
  exact ⟨rfl, .inl ⟨rfl, rfl⟩, fun h ob _ e => h1 h ob (ne_of' hg e) (sub_upd hg h ob e)⟩
 ·refine (markC_own σ g cs k hg hl hk).mono ?_
  rintro r σ' ⟨rfl, h1, h2⟩
  exact ⟨rfl, .inr ⟨g, by rw [marks3_length], h2, hn⟩, fun h ob hb e => h1 h ob (ne_of' hn hb) e⟩
theorem heldC_calls (σ : AHeap) (v : Value) (n : Nat) (k : Int) (hv : Tris σ v (marks3 n k)) (hl : n ≤ 1048576) (hk : 0 ≤ k ∧ k ≤ 1099511627776) :
  ACall Tryz.prog w0 41 [v, .int .i64 k] σ fun r σ' => r = .int .i64 (k + 3 * n) ∧ σ' = σ :=
 ACall.tris_quiet (pre := []) (by kernel_rfl) hv fun σ1 g o _ hg => by
  rw [marks3_length]; exact heldC_at σ1 g o n k hg hl hk
end Go.Proofs.YtafkndnmhhjdhaaGreatDoor
namespace Go.Proofs.YtafkndnmhhjdhaaGreatDoor
open Go Go.Abs Go.RowKit Go.Dial Go.Clos
variable {w0 : World}
/-- an exchange as a value -/
def exV (v1 v2 : Value) (e : Ex) : Value := .agg #[.int .i64 e.s.O, .int .i64 e.s.E, .int .i64 e.s.M, v1, v2]
/-- an exchange of one's own -/
def OwnX (β σ : AHeap) (v : Value) (e : Ex) : Prop := ∃ v1 v2, v = exV v1 v2 e ∧ OwnS β σ v1 e.ps ∧ OwnC β σ v2 e.cs
/-- an exchange that is only read -/
def ExV (σ : AHeap) (v : Value) (e : Ex) : Prop := ∃ v1 v2, v = exV v1 v2 e ∧ Texts σ v1 e.ps ∧ Tris σ v2 e.cs
/-- not too big -/
def ExB (e : Ex) : Prop := e.ps.length ≤ 1048576 ∧ (∀ x ∈ e.ps, x.length ≤ 1048576) ∧ e.cs.length ≤ 1048576
theorem OwnX.ex {β σ : AHeap} {v : Value} {e : Ex} (h : OwnX β σ v e) : ExV σ v e := let ⟨v1, v2, h1, h2, h3⟩ := h; ⟨v1, v2, h1, h2.texts, h3.tris⟩
theorem OwnX.sub {β σ τ : AHeap} {v : Value} {e : Ex} (h : OwnX β σ v e) (hs : Sub σ τ) : OwnX β τ v e := let ⟨v1, v2, h1, h2, h3⟩ := h; ⟨v1, v2, h1, h2.sub hs, h3.sub hs⟩
theorem OwnX.older {β β' σ : AHeap} {v : Value} {e : Ex} (h : OwnX β σ v e) (hs : Sub β' β) : OwnX β' σ v e := let ⟨v1, v2, h1, h2, h3⟩ := h; ⟨v1, v2, h1, h2.older hs, h3.older hs⟩
theorem ExV.sub {σ τ : AHeap} {v : Value} {e : Ex} (h : ExV σ v e) (hs : Sub σ τ) : ExV τ v e := let ⟨v1, v2, h1, h2, h3⟩ := h; ⟨v1, v2, h1, h2.sub hs, h3.sub hs⟩
theorem texts_cellV {σ : AHeap} {v : Value} {xs : List (List UInt8)} (h : Texts σ v xs) : v.cells = #[v] ∧ Value.oneCell' v = true := by
 rcases h with ⟨rfl, rfl⟩ | ⟨g, o, rfl, -⟩ <;> exact ⟨rfl, rfl⟩
theorem tris_cellV {σ : AHeap} {v : Value} {xs : List Cl} (h : Tris σ v xs) : v.cells = #[v] ∧ Value.oneCell' v = true := by
 rcases h with ⟨rfl, rfl⟩ | ⟨g, o, rfl, -⟩ <;> exact ⟨rfl, rfl⟩
set_option maxRecDepth 8000 in
theorem szTextsN_at (σ : AHeap) (h o : Nat) (ps : List (List UInt8)) (n : Int) (hn : 0 ≤ n ∧ n ≤ 1048576) (hv : TextsAt σ h o ps) (hl : ps.length ≤ 2 ^ 63 - 1) (hp : ∀ x ∈ ps, x.length ≤ 2 ^ 63 - 1) :
  ACall Tryz.prog w0 12 [.slice (some ⟨h, o, none⟩) ps.length 1, .int .i64 n] σ fun r σ' => (∃ z : Int, r = .int .i64 z ∧ z ≤ 1048576 ∧ (z < 0 ∨ (ps.length ≤ 1048576 ∧ ∀ x ∈ ps, x.length ≤ 1048576))) ∧ σ' = σ := by
 refine acall_go mixed Tryz.func12 rfl good12 fun pr => ?_
 by_cases hbig : n < ps.length
 ·simp -implicitDefEqProofs (disch := omega) only [Nat.reduceEqDiff, ↓reduceIte, vcu, ↓vcd]
  refine fin_one Tryz.results12 ⟨⟨-1, ?_, by omega, .inl (by omega)⟩, rfl⟩
  simp -implicitDefEqProofs (disch := omega) only [Nat.reduceEqDiff, ↓reduceIte, vcu, ↓vcd]
 ·simp -implicitDefEqProofs (disch := omega) only [Nat.reduceEqDiff, ↓reduceIte, vcu, ↓vcd]
  refine vc_loop_c mixed (by kernel_rfl) [0] (fun m a σ' => ∃ (k : Nat) (z : Int), m + k = ps.length ∧ a 5 = .int .i64 k ∧ a 1 = .int .i64 z ∧ 0 ≤ z ∧ z ≤ 1048576 ∧ (∀ j, j < k → (ps.getD j []).length ≤ 1048576) ∧ σ' = σ) ps.length ⟨0, _, by simp, rfl, rfl, by omega, by omega, fun j hj => absurd hj (by omega), rfl⟩ ?_
  rintro m a σ' hc ⟨k, z, hk, h5, h1, hz, hz2, hall, rfl⟩
  simp -implicitDefEqProofs (disch := omega) only [Nat.reduceEqDiff, ↓reduceIte, vcu, ↓vcd] at hc
  obtain ⟨h0, -⟩ := hc
  by_cases hlt : k < ps.length
  ·have hx := hv k hlt
   have hmem : ps.getD k [] ∈ ps := by simp [List.getD, hlt]
   have hb := hp _ hmem
   by_cases hneg : z - ((ps.getD k []).length : Int) < 0
   ·simp -implicitDefEqProofs (disch := omega) only [Nat.reduceEqDiff, ↓reduceIte, vcu, ↓vcd, h0, h1, h5, hx]
    refine fin_one Tryz.results12 ⟨⟨-1, ?_, by omega, .inl (by omega)⟩, rfl⟩
    simp -implicitDefEqProofs (disch := omega) only [Nat.reduceEqDiff, ↓reduceIte, vcu, ↓vcd]
   ·simp -implicitDefEqProofs (disch := omega) only [Nat.reduceEqDiff, ↓reduceIte, vcu, ↓vcd, h0, h1, h5, hx]
    refine ⟨⟨trivial, trivial⟩, m - 1, by omega, k + 1, _, by omega, by simp, rfl, by omega, by omega, fun j hj => ?_, trivial⟩
    by_cases e : j = k
    ·subst e; omega
    ·exact hall j (by omega)
  ·simp -implicitDefEqProofs (disch := omega) only [Nat.reduceEqDiff, ↓reduceIte, vcu, ↓vcd, h0, h1, h5]
   refine fin_one Tryz.results12 ⟨⟨z, ?_, by omega, .inr ⟨by omega, fun x hx => ?_⟩⟩, rfl⟩
   ·simp -implicitDefEqProofs (disch := omega) only [Nat.reduceEqDiff, ↓reduceIte, vcu, ↓vcd, h1]
   ·obtain ⟨j, hj, rfl⟩ := List.mem_iff_getElem.1 hx
    have := hall j (by omega)
    simpa [List.getD, hj] using this
theorem szTextsN_calls (σ : AHeap) (v : Value) (ps : List (List UInt8)) (n : Int) (hn : 0 ≤ n ∧ n ≤ 1048576) (hv : Texts σ v ps) (hl : ps.length ≤ 2 ^ 63 - 1) (hp : ∀ x ∈ ps, x.length ≤ 2 ^ 63 - 1) :
  ACall Tryz.prog w0 12 [v, .int .i64 n] σ fun r σ' => (∃ z : Int, r = .int .i64 z ∧ z ≤ 1048576 ∧ (z < 0 ∨ (ps.length ≤ 1048576 ∧ ∀ x ∈ ps, x.length ≤ 1048576))) ∧ σ' = σ :=
 ACall.texts_arg (pre := []) (by kernel_rfl) hv fun σ1 h o hs hg => (szTextsN_at σ1 h o ps n hn hg hl hp).drop fun _ _ ⟨h1, h2⟩ => ⟨σ, h2 ▸ hs, h1, rfl⟩
theorem szCalls_calls (σ : AHeap) (v : Value) (cs : List Cl) (n : Int) (hn : 0 ≤ n ∧ n ≤ 1048576) (hv : Tris σ v cs) (hm : cs.length ≤ maxLen) :
  ACall Tryz.prog w0 19 [v, .int .i64 n] σ fun r σ' => r = .int .i64 (if n < cs.length then -1 else n - cs.length) ∧ σ' = σ :=
 ACall.tris_quiet (pre := []) (by kernel_rfl) hv fun σ1 h o _ _ => szCalls_at σ1 h o cs n hn hm
set_option maxRecDepth 8000 in
theorem szEx_calls (σ : AHeap) (v : Value) (e : Ex) (hv : ExV σ v e) (hl : e.ps.length ≤ maxLen) (hp : ∀ x ∈ e.ps, x.length ≤ maxLen) (hm : e.cs.length ≤ maxLen) :
  ACall Tryz.prog w0 5 [v, .int .i64 1048576] σ fun r σ' => (∃ z : Int, r = .int .i64 z ∧ z ≤ 1048576 ∧ (z < 0 ∨ ExB e)) ∧ σ' = σ := by
 obtain ⟨⟨O, E, M⟩, ps, cs⟩ := e
 obtain ⟨v1, v2, rfl, t1, t2⟩ := hv
 dsimp only at hl hp hm t1 t2
 unfold exV
 refine acall_go mixed Tryz.func5 rfl good5 fun pr => ?_
 simp -implicitDefEqProofs (disch := omega) only [Nat.reduceEqDiff, ↓reduceIte, vcu, ↓vcd]
 refine r_boxed fun b τ nb s1 e1 => ?_
 replace e1 : τ b = some ⟨[.int .i64 O, .int .i64 E, .int .i64 M, v1, v2], false⟩ := e1
 have l3 : ld τ b (0 + 3) = some v1 := ld_of e1 rfl
 have l4 : ld τ b (0 + 4) = some v2 := ld_of e1 rfl
 simp -implicitDefEqProofs (disch := omega) only [Nat.reduceEqDiff, ↓reduceIte, vcu, ↓vcd, l3]
 refine (szTextsN_calls τ v1 ps 1048576 (by omega) (t1.sub s1) hl hp).mono ?_
 rintro _ _ ⟨⟨z, rfl, hz, hok⟩, rfl⟩
 rename_i τ
 by_cases hneg : z < 0
 ·simp -implicitDefEqProofs (disch := omega) only [Nat.reduceEqDiff, ↓reduceIte, vcu, ↓vcd, opK_some]
  refine fin_drop Tryz.results5 σ s1 ⟨⟨-1, ?_, by omega, .inl (by omega)⟩, rfl⟩
  simp -implicitDefEqProofs (disch := omega) only [Nat.reduceEqDiff, ↓reduceIte, vcu, ↓vcd]
 obtain ⟨ok1, ok2⟩ := hok.resolve_left hneg
 simp -implicitDefEqProofs (disch := omega) only [Nat.reduceEqDiff, ↓reduceIte, vcu, ↓vcd, opK_some, l4]
 refine (szCalls_calls τ v2 cs z (by omega) (t2.sub s1) hm).mono ?_
 rintro _ _ ⟨rfl, rfl⟩
 rename_i τ
 by_cases hbig : z < cs.length
 ·rw [if_pos hbig]
  simp -implicitDefEqProofs (disch := omega) only [Nat.reduceEqDiff, ↓reduceIte, vcu, ↓vcd, opK_some]
  refine fin_drop Tryz.results5 σ s1 ⟨⟨-1, ?_, by omega, .inl (by omega)⟩, rfl⟩
  simp -implicitDefEqProofs (disch := omega) only [Nat.reduceEqDiff, ↓reduceIte, vcu, ↓vcd]
 ·rw [if_neg hbig]
  simp -implicitDefEqProofs (disch := omega) only [Nat.reduceEqDiff, ↓reduceIte, vcu, ↓vcd, opK_some]
  refine fin_drop Tryz.results5 σ s1 ⟨⟨z - (cs.length : Int), ?_, by omega, .inr ⟨ok1, ok2, by show cs.length ≤ _; omega⟩⟩, rfl⟩
  simp -implicitDefEqProofs (disch := omega) only [Nat.reduceEqDiff, ↓reduceIte, vcu, ↓vcd]
theorem eqShape_at (σ : AHeap) (A B C D E F : Int) : ACall Tryz.prog w0 38 [.agg #[.int .i64 A, .int .i64 B, .int .i64 C], .agg #[.int .i64 D, .int .i64 E, .int .i64 F]] σ fun r σ' => r = .bool (decide ((⟨A, B, C⟩ : Sp) = ⟨D, E, F⟩)) ∧ σ' = σ := by
 refine acall_go mixed Tryz.func38 rfl good38 fun pr => ?_
 simp -implicitDefEqProofs (disch := omega) only [Nat.reduceEqDiff, ↓reduceIte, vcu, ↓vcd]
 refine r_boxed fun b1 τ1 n1 s1 e1 => ?_
 replace e1 : τ1 b1 = some ⟨[.int .i64 A, .int .i64 B, .int .i64 C], false⟩ := e1
 refine r_boxed fun b2 τ2 n2 s2 e2 => ?_
 replace e2 : τ2 b2 = some ⟨[.int .i64 D, .int .i64 E, .int .i64 F], false⟩ := e2
 replace e1 := s2 _ _ e1
 have s12 := s1.trans s2
 have x0 : ld τ2 b1 (0 + 0) = some (.int .i64 A) := ld_of e1 rfl
 have x1 : ld τ2 b1 (0 + 1) = some (.int .i64 B) := ld_of e1 rfl
 have x2 : ld τ2 b1 (0 + 2) = some (.int .i64 C) := ld_of e1 rfl
 have y0 : ld τ2 b2 (0 + 0) = some (.int .i64 D) := ld_of e2 rfl
 have y1 : ld τ2 b2 (0 + 1) = some (.int .i64 E) := ld_of e2 rfl
 have y2 : ld τ2 b2 (0 + 2) = some (.int .i64 F) := ld_of e2 rfl
 by_cases h1 : A = D
 case neg =>
  have d1 : decide (A ≠ D) = true := decide_eq_true h1
  simp -implicitDefEqProofs (disch := omega) only [Nat.reduceEqDiff, ↓reduceIte, vcu, ↓vcd, x0, y0, d1]
  refine fin_drop Tryz.results38 σ s12 ⟨?_, rfl⟩
  simp -implicitDefEqProofs (disch := omega) only [Nat.reduceEqDiff, ↓reduceIte, vcu, ↓vcd]
  rw [decide_eq_false (by rintro e; cases e; exact h1 rfl)]
 have d1 : decide (A ≠ D) = false := decide_eq_false fun h => h h1
 by_cases h2 : B = E
 case neg =>
  have d2 : decide (B ≠ E) = true := decide_eq_true h2
  simp -implicitDefEqProofs (disch := omega) only [Nat.reduceEqDiff, ↓reduceIte, vcu, ↓vcd, x0, y0, d1, x1, y1, d2]
  refine fin_drop Tryz.results38 σ s12 ⟨?_, rfl⟩
  simp -implicitDefEqProofs (disch := omega) only [Nat.reduceEqDiff, ↓reduceIte, vcu, ↓vcd]
  rw [decide_eq_false (by rintro e; cases e; exact h2 rfl)]
 have d2 : decide (B ≠ E) = false := decide_eq_false fun h => h h2
 by_cases h3 : C = F
 ·have d3 : decide (C ≠ F) = false := decide_eq_false fun h => h h3
  simp -implicitDefEqProofs (disch := omega) only [Nat.reduceEqDiff, ↓reduceIte, vcu, ↓vcd, x0, y0, d1, x1, y1, d2, x2, y2, d3]
  refine fin_drop Tryz.results38 σ s12 ⟨?_, rfl⟩
  simp -implicitDefEqProofs (disch := omega) only [Nat.reduceEqDiff, ↓reduceIte, vcu, ↓vcd]
  rw [decide_eq_true (by rw [h1, h2, h3])]
 ·have d3 : decide (C ≠ F) = true := decide_eq_true h3
  simp -implicitDefEqProofs (disch := omega) only [Nat.reduceEqDiff, ↓reduceIte, vcu, ↓vcd, x0, y0, d1, x1, y1, d2, x2, y2, d3]
  refine fin_drop Tryz.results38 σ s12 ⟨?_, rfl⟩
  simp -implicitDefEqProofs (disch := omega) only [Nat.reduceEqDiff, ↓reduceIte, vcu, ↓vcd]
  rw [decide_eq_false (by rintro e; cases e; exact h3 rfl)]
set_option maxRecDepth 8000 in
theorem eqEx_calls (σ : AHeap) (v w : Value) (e f : Ex) (hv : ExV σ v e) (hw : ExV σ w f) (hb : ExB e) (hb2 : ExB f) :
  ACall Tryz.prog w0 9 [v, w] σ fun r σ' => r = .bool (decide (e = f)) ∧ σ' = σ := by
 obtain ⟨⟨O, E, M⟩, ps, cs⟩ := e
 obtain ⟨⟨O2, E2, M2⟩, ps2, cs2⟩ := f
 obtain ⟨v1, v2, rfl, t1, t2⟩ := hv
 obtain ⟨u1, u2, rfl, q1, q2⟩ := hw
 obtain ⟨b1, b2, b3⟩ := hb
 obtain ⟨c1, c2, c3⟩ := hb2
 dsimp only at t1 t2 q1 q2 b1 b2 b3 c1 c2 c3
 unfold exV
 refine acall_go mixed Tryz.func9 rfl good9 fun pr => ?_
 simp -implicitDefEqProofs (disch := omega) only [Nat.reduceEqDiff, ↓reduceIte, vcu, ↓vcd]
 refine r_boxed fun b τ1 nb s1 e1 => ?_
 replace e1 : τ1 b = some ⟨[.int .i64 O, .int .i64 E, .int .i64 M, v1, v2], false⟩ := e1
 refine r_boxed fun b' τ nb' s2 e2 => ?_
 replace e2 : τ b' = some ⟨[.int .i64 O2, .int .i64 E2, .int .i64 M2, u1, u2], false⟩ := e2
 replace e1 := s2 _ _ e1
 have s12 := s1.trans s2
 have x0 : lds τ b 0 3 = some [.int .i64 O, .int .i64 E, .int .i64 M] := lds_three (ld_of e1 rfl) (ld_of e1 rfl) (ld_of e1 rfl)
 have y0 : lds τ b' 0 3 = some [.int .i64 O2, .int .i64 E2, .int .i64 M2] := lds_three (ld_of e2 rfl) (ld_of e2 rfl) (ld_of e2 rfl)
 have x3 : ld τ b (0 + 3) = some v1 := ld_of e1 rfl
 have x4 : ld τ b (0 + 4) = some v2 := ld_of e1 rfl
 have y3 : ld τ b' (0 + 3) = some u1 := ld_of e2 rfl
 have y4 : ld τ b' (0 + 4) = some u2 := ld_of e2 rfl
 simp -implicitDefEqProofs (disch := omega) only [Nat.reduceEqDiff, ↓reduceIte, vcu, ↓vcd, x0, y0, co29, Nat.add_zero]
 refine (eqShape_at τ O E M O2 E2 M2).mono ?_
 rintro _ _ ⟨rfl, rfl⟩
 rename_i τ
 by_cases h1 : (⟨O, E, M⟩ : Sp) = ⟨O2, E2, M2⟩
 case neg =>
  rw [decide_eq_false h1]
  simp -implicitDefEqProofs (disch := omega) only [Nat.reduceEqDiff, ↓reduceIte, vcu, ↓vcd, opK_some, Bool.not_false]
  refine fin_drop Tryz.results9 σ s12 ⟨?_, rfl⟩
  simp -implicitDefEqProofs (disch := omega) only [Nat.reduceEqDiff, ↓reduceIte, vcu, ↓vcd]
  rw [decide_eq_false (by rintro e; cases e; exact h1 rfl)]
 rw [decide_eq_true h1]
 simp -implicitDefEqProofs (disch := omega) only [Nat.reduceEqDiff, ↓reduceIte, vcu, ↓vcd, opK_some, Bool.not_true, x3, y3]
 refine (eqTexts_calls τ v1 u1 ps ps2 (t1.sub s12) (q1.sub s12) b1 c1).mono ?_
 rintro _ _ ⟨rfl, rfl⟩
 rename_i τ
 by_cases h2 : ps = ps2
 case neg =>
  rw [decide_eq_false h2]
  simp -implicitDefEqProofs (disch := omega) only [Nat.reduceEqDiff, ↓reduceIte, vcu, ↓vcd, opK_some, Bool.not_false]
  refine fin_drop Tryz.results9 σ s12 ⟨?_, rfl⟩
  simp -implicitDefEqProofs (disch := omega) only [Nat.reduceEqDiff, ↓reduceIte, vcu, ↓vcd]
  rw [decide_eq_false (by rintro e; cases e; exact h2 rfl)]
 rw [decide_eq_true h2]
 simp -implicitDefEqProofs (disch := omega) only [Nat.reduceEqDiff, ↓reduceIte, vcu, ↓vcd, opK_some, Bool.not_true, x4, y4]
 refine (eqCalls_calls τ v2 u2 cs cs2 (t2.sub s12) (q2.sub s12) b3 c3).mono ?_
 rintro _ _ ⟨rfl, rfl⟩
 rename_i τ
 by_cases h3 : cs = cs2
 case neg =>
  rw [decide_eq_false h3]
  simp -implicitDefEqProofs (disch := omega) only [Nat.reduceEqDiff, ↓reduceIte, vcu, ↓vcd, opK_some, Bool.not_false]
  refine fin_drop Tryz.results9 σ s12 ⟨?_, rfl⟩
  simp -implicitDefEqProofs (disch := omega) only [Nat.reduceEqDiff, ↓reduceIte, vcu, ↓vcd]
  rw [decide_eq_false (by rintro e; cases e; exact h3 rfl)]
 rw [decide_eq_true h3]
 simp -implicitDefEqProofs (disch := omega) only [Nat.reduceEqDiff, ↓reduceIte, vcu, ↓vcd, opK_some, Bool.not_true]
 refine fin_drop Tryz.results9 σ s12 ⟨?_, rfl⟩
 simp -implicitDefEqProofs (disch := omega) only [Nat.reduceEqDiff, ↓reduceIte, vcu, ↓vcd]
 rw [decide_eq_true (by rw [h1, h2, h3])]
end Go.Proofs.YtafkndnmhhjdhaaGreatDoor
namespace Go.Proofs.YtafkndnmhhjdhaaGreatDoor
open Go Go.Abs Go.RowKit Go.Dial Go.Clos
variable {w0 : World}
theorem toCalls_calls (σ : AHeap) (v : Value) (cs : List Cl) (hv : Tris σ v cs) (hl : cs.length ≤ 1048576) :
  ACall Tryz.prog w0 33 [v] σ fun r σ' => ∃ g, σ g = none ∧ r = .slice (some ⟨g, 0, none⟩) cs.length 3 ∧ Sub σ σ' ∧ σ' g = some ⟨tris cs, false⟩ := by
 refine ACall.tris_arg (pre := []) (post := []) (by kernel_rfl) hv fun σ1 g1 o1 hs1 hg1 => ?_
 refine (toCalls_at σ1 g1 o1 cs hg1 hl).mono ?_
 rintro r τ1 ⟨q, a1, a2, a3, a4⟩
 exact ⟨q, free_sub hs1 a1, a2, hs1.trans a3, a4⟩
set_option maxRecDepth 8000 in
theorem toEx_calls (σ : AHeap) (v : Value) (e : Ex) (hv : ExV σ v e) (hb : ExB e) :
  ACall Tryz.prog w0 7 [v] σ fun r σ' => Sub σ σ' ∧ OwnX σ σ' r e := by
 obtain ⟨⟨O, E, M⟩, ps, cs⟩ := e
 obtain ⟨v1, v2, rfl, t1, t2⟩ := hv
 obtain ⟨b1, b2, b3⟩ := hb
 dsimp only at t1 t2 b1 b2 b3
 unfold exV
 refine acall_goc mixed Tryz.func7 rfl goodc7 fun pr => ?_
 simp -implicitDefEqProofs (disch := omega) only [Nat.reduceEqDiff, ↓reduceIte, vcu, ↓vcd]
 refine r_boxed fun b τ1 nb s1 e1 => ?_
 replace e1 : τ1 b = some ⟨[.int .i64 O, .int .i64 E, .int .i64 M, v1, v2], false⟩ := e1
 refine r_new ze32 fun h2 τ2 n2 s2 e2 => ?_
 replace e2 : τ2 h2 = some ⟨[.int .i64 0, .int .i64 0, .int .i64 0, .slice none 0 0, .slice none 0 0], false⟩ := e2
 simp -implicitDefEqProofs (disch := omega) only [Nat.reduceEqDiff, ↓reduceIte, vcu, ↓vcd]
 refine r_new ze32 fun h3 τ3 n3 s3 e3 => ?_
 replace e3 : τ3 h3 = some ⟨[.int .i64 0, .int .i64 0, .int .i64 0, .slice none 0 0, .slice none 0 0], false⟩ := e3
 have f1 := s3 _ _ (s2 _ _ e1)
 have q3 : Sub σ τ3 := s1.trans (s2.trans s3)
 have z3 : σ h3 = none := free_sub (s1.trans s2) n3
 have z2 : σ h2 = none := free_sub s1 n2
 have d2 := ne_of n3 e2
 have d1 := ne_of n3 (s2 _ _ e1)
 have x0 : lds τ3 b 0 3 = some [.int .i64 O, .int .i64 E, .int .i64 M] := lds_three (ld_of f1 rfl) (ld_of f1 rfl) (ld_of f1 rfl)
 simp -implicitDefEqProofs (disch := omega) only [Nat.reduceEqDiff, ↓reduceIte, vcu, ↓vcd, x0, co23, Nat.add_zero]
 refine (toShape_at τ3 O E M).mono ?_
 rintro _ _ ⟨rfl, rfl⟩
 rename_i τ3
 simp -implicitDefEqProofs (disch := omega) only [Nat.reduceEqDiff, ↓reduceIte, vcu, ↓vcd, opK_some, Nat.add_zero]
 refine r_sets (g := h3) (i := 0) (C := [.int .i64 0, .int .i64 0, .int .i64 0, .slice none 0 0, .slice none 0 0]) z9q z9co29 z9r z9z e3 (by simp -implicitDefEqProofs (disch := omega) only [Nat.reduceEqDiff, ↓reduceIte, vcu, ↓vcd]; show 0 + 3 ≤ 5; omega) fun τ4 k4 e4 => ?_
 replace e4 : τ4 h3 = some ⟨[.int .i64 O, .int .i64 E, .int .i64 M, .slice none 0 0, .slice none 0 0], false⟩ := e4
 have f4 := k4.at f1 d1.symm
 have q4 : Sub σ τ4 := k4.sub q3 z3
 have x3 : ld τ4 b (0 + 3) = some v1 := ld_of f4 rfl
 simp -implicitDefEqProofs (disch := omega) only [Nat.reduceEqDiff, ↓reduceIte, vcu, ↓vcd, x3]
 refine (toTexts_calls τ4 v1 ps (t1.sub q4) b1).mono ?_
 rintro _ τ5 ⟨g1, m1, rfl, s5, w1⟩
 have e5 := s5 _ _ e4
 have f5 := s5 _ _ f4
 have dg1 : g1 ≠ h3 := ne_of m1 e4
 simp -implicitDefEqProofs (disch := omega) only [Nat.reduceEqDiff, ↓reduceIte, vcu, ↓vcd, opK_some]
 refine r_set (g := h3) (i := 3) z9q z9r co24 z9r e5 (by simp) fun τ6 k6 e6 => ?_
 replace e6 : τ6 h3 = some ⟨[.int .i64 O, .int .i64 E, .int .i64 M, .slice (some ⟨g1, 0, none⟩) ps.length 1, .slice none 0 0], false⟩ := e6
 have f6 := k6.at f5 d1.symm
 have q6 : Sub σ τ6 := k6.sub (q4.trans s5) z3
 have w6 := k6.at w1 dg1
 have x4 : ld τ6 b (0 + 4) = some v2 := ld_of f6 rfl
 simp -implicitDefEqProofs (disch := omega) only [Nat.reduceEqDiff, ↓reduceIte, vcu, ↓vcd, x4]
 refine (toCalls_calls τ6 v2 cs (t2.sub q6) b3).mono ?_
 rintro _ τ7 ⟨g2, m2, rfl, s7, u1⟩
 have e7 := s7 _ _ e6
 have dg2 : g2 ≠ h3 := ne_of m2 e6
 simp -implicitDefEqProofs (disch := omega) only [Nat.reduceEqDiff, ↓reduceIte, vcu, ↓vcd, opK_some]
 refine r_set (g := h3) (i := 4) z9q z9r co30 z9r e7 (by simp) fun τ8 k8 e8 => ?_
 replace e8 : τ8 h3 = some ⟨[.int .i64 O, .int .i64 E, .int .i64 M, .slice (some ⟨g1, 0, none⟩) ps.length 1, .slice (some ⟨g2, 0, none⟩) cs.length 3], false⟩ := e8
 have q8 : Sub σ τ8 := k8.sub (q6.trans s7) z3
 have w8 := k8.at (s7 _ _ w6) dg1
 have u8 := k8.at u1 dg2
 have l4 : lds τ8 h3 0 5 = some [.int .i64 O, .int .i64 E, .int .i64 M, .slice (some ⟨g1, 0, none⟩) ps.length 1, .slice (some ⟨g2, 0, none⟩) cs.length 3] := by
  rw [lds_of e8 (by simp)]; rfl
 have f2 : τ8 h2 = some ⟨[.int .i64 0, .int .i64 0, .int .i64 0, .slice none 0 0, .slice none 0 0], false⟩ := k8.at (s7 _ _ (k6.at (s5 _ _ (k4.at (s3 _ _ e2) d2.symm)) d2.symm)) d2.symm
 simp -implicitDefEqProofs (disch := omega) only [Nat.reduceEqDiff, ↓reduceIte, vcu, ↓vcd, l4, co32]
 refine r_sets (g := h2) (i := 0) (C := [.int .i64 0, .int .i64 0, .int .i64 0, .slice none 0 0, .slice none 0 0]) z9q z9co32 z9r z9z f2 z9l fun τ9 k9 e9 => ?_
 replace e9 : τ9 h2 = some ⟨[.int .i64 O, .int .i64 E, .int .i64 M, .slice (some ⟨g1, 0, none⟩) ps.length 1, .slice (some ⟨g2, 0, none⟩) cs.length 3], false⟩ := e9
 have l5 : lds τ9 h2 0 5 = some [.int .i64 O, .int .i64 E, .int .i64 M, .slice (some ⟨g1, 0, none⟩) ps.length 1, .slice (some ⟨g2, 0, none⟩) cs.length 3] := by
  rw [lds_of e9 (by simp)]; rfl
 have q9 : Sub σ τ9 := k9.sub q8 z2
 have h2g1 : g1 ≠ h2 := ne_of m1 (k4.at (s3 _ _ e2) d2.symm)
 have h2g2 : g2 ≠ h2 := ne_of m2 (k6.at (s5 _ _ (k4.at (s3 _ _ e2) d2.symm)) d2.symm)
 have zg1 : σ g1 = none := free_sub q4 m1
 have zg2 : σ g2 = none := free_sub q6 m2
 simp -implicitDefEqProofs (disch := omega) only [Nat.reduceEqDiff, ↓reduceIte, vcu, ↓vcd]
 refine fin_cell Tryz.results7 τ9 (Sub.refl _) (v := exV (.slice (some ⟨g1, 0, none⟩) ps.length 1) (.slice (some ⟨g2, 0, none⟩) cs.length 3) ⟨⟨O, E, M⟩, ps, cs⟩) (by simp -implicitDefEqProofs (disch := omega) only [Nat.reduceEqDiff, ↓reduceIte, vcu, ↓vcd, l5, co32]; rfl) ⟨q9, _, _, rfl, .inr ⟨g1, rfl, k9.at w8 h2g1, zg1⟩, .inr ⟨g2, rfl, k9.at u8 h2g2, zg2⟩⟩
/-- what is marked, and all else stays -/
theorem markS_keep (β σ : AHeap) (v : Value) (xs : List (List UInt8)) (k : Int) (hv : OwnS β σ v xs) (hl : xs.length ≤ 1048576) (hk : 0 ≤ k ∧ k ≤ 1073741824) :
  ACall Tryz.prog w0 17 [v, .int .i64 k] σ fun r σ' => r = .int .i64 (k + xs.length) ∧ OwnS β σ' v (markX k xs.length) ∧ ∀ h ob, σ h = some ob → (∀ n z, v ≠ .slice (some ⟨h, 0, none⟩) n z) → σ' h = some ob := by
 rcases hv with ⟨rfl, rfl⟩ | ⟨g, rfl, hg, hn⟩
 ·refine (markS_calls σ σ _ [] k (.inl ⟨rfl, rfl⟩) hl hk).mono ?_
  rintro r σ' ⟨h1, h2, h3⟩
  exact ⟨h1, .inl ⟨rfl, rfl⟩, fun h ob e _ => h3 h ob e e⟩
 ·refine (markS_calls (σ.upd g none) σ _ xs k (.inr ⟨g, rfl, hg, AHeap.upd_same _ _ _⟩) hl hk).mono ?_
  rintro r σ' ⟨h1, h2, h3⟩
  rcases h2 with ⟨h2, _⟩ | ⟨g', h2, h4, _⟩
  ·cases h2
  ·rw [markX_length] at h2
   cases h2
   exact ⟨h1, .inr ⟨g, by rw [markX_length], h4, hn⟩, fun h ob e hne => by
    have hx : h ≠ g := by rintro rfl; exact hne _ _ rfl
    exact h3 h ob (by rw [AHeap.upd_ne _ _ hx]; exact e) e⟩
theorem markC_keep (β σ : AHeap) (v : Value) (cs : List Cl) (k : Int) (hv : OwnC β σ v cs) (hl : cs.length ≤ 1048576) (hk : 0 ≤ k ∧ k ≤ 1099511627776) :
  ACall Tryz.prog w0 40 [v, .int .i64 k] σ fun r σ' => r = .int .i64 (k + 3 * cs.length) ∧ OwnC β σ' v (marks3 cs.length k) ∧ ∀ h ob, σ h = some ob → (∀ n z, v ≠ .slice (some ⟨h, 0, none⟩) n z) → σ' h = some ob := by
 rcases hv with ⟨rfl, rfl⟩ | ⟨g, rfl, hg, hn⟩
 ·refine (markC_calls σ σ _ [] k (.inl ⟨rfl, rfl⟩) hl hk).mono ?_
  rintro r σ' ⟨h1, h2, h3⟩
  exact ⟨h1, .inl ⟨rfl, rfl⟩, fun h ob e _ => h3 h ob e e⟩
 ·refine (markC_calls (σ.upd g none) σ _ cs k (.inr ⟨g, rfl, hg, AHeap.upd_same _ _ _⟩) hl hk).mono ?_
  rintro r σ' ⟨h1, h2, h3⟩
  rcases h2 with ⟨h2, _⟩ | ⟨g', h2, h4, _⟩
  ·cases h2
  ·rw [marks3_length] at h2
   cases h2
   exact ⟨h1, .inr ⟨g, by rw [marks3_length], h4, hn⟩, fun h ob e hne => by
    have hx : h ≠ g := by rintro rfl; exact hne _ _ rfl
    exact h3 h ob (by rw [AHeap.upd_ne _ _ hx]; exact e) e⟩
/-- rows of texts and of calls lie apart, but for empty ones -/
theorem ownSC {β β' σ : AHeap} {v1 v2 : Value} {ps : List (List UInt8)} {cs : List Cl} (h1 : OwnS β σ v1 ps) (h2 : OwnC β' σ v2 cs) {g n z n2 z2 : Nat} (e1 : v1 = .slice (some ⟨g, 0, none⟩) n z) (e2 : v2 = .slice (some ⟨g, 0, none⟩) n2 z2) : ps = [] ∧ cs = [] := by
 rcases h1 with ⟨rfl, _⟩ | ⟨g1, rfl, h3, _⟩
 ·cases e1
 rcases h2 with ⟨rfl, _⟩ | ⟨g2, rfl, h4, _⟩
 ·cases e2
 cases e1; cases e2
 rw [h3] at h4
 cases ps with
 | nil =>
  cases cs with
  | nil => exact ⟨rfl, rfl⟩
  | cons c cs => simp [texts, tris, tri] at h4
 | cons p ps =>
  cases cs with
  | nil => simp [texts, tris] at h4
  | cons c cs => simp [texts, tris, tri] at h4
/-- an exchange whose rows are marked -/
def exM (k : Int) (e : Ex) : Ex := ⟨e.s, markX k e.ps.length, marks3 e.cs.length (k + e.ps.length)⟩
set_option maxRecDepth 8000 in
theorem heldEx_calls (σ : AHeap) (v : Value) (e : Ex) (k : Int) (hv : ExV σ v (exM k e)) (hb : ExB e) (hk : 0 ≤ k ∧ k ≤ 1000000) :
  ACall Tryz.prog w0 11 [v, .int .i64 k] σ fun r σ' => r = .int .i64 (k + e.ps.length + 3 * e.cs.length) ∧ σ' = σ := by
 obtain ⟨⟨O, E, M⟩, ps, cs⟩ := e
 obtain ⟨v1, v2, rfl, t1, t2⟩ := hv
 obtain ⟨b1, b2, b3⟩ := hb
 simp only [exM] at t1 t2 b1 b2 b3
 unfold exV exM
 dsimp only
 refine acall_go mixed Tryz.func11 rfl good11 fun pr => ?_
 simp -implicitDefEqProofs (disch := omega) only [Nat.reduceEqDiff, ↓reduceIte, vcu, ↓vcd]
 refine r_boxed fun b τ nb s1 e1 => ?_
 replace e1 : τ b = some ⟨[.int .i64 O, .int .i64 E, .int .i64 M, v1, v2], false⟩ := e1
 have x3 : ld τ b (0 + 3) = some v1 := ld_of e1 rfl
 have x4 : ld τ b (0 + 4) = some v2 := ld_of e1 rfl
 simp -implicitDefEqProofs (disch := omega) only [Nat.reduceEqDiff, ↓reduceIte, vcu, ↓vcd, x3]
 refine (heldS_calls τ v1 ps.length k (t1.sub s1) b1 ⟨hk.1, by omega⟩).mono ?_
 rintro _ _ ⟨rfl, rfl⟩
 rename_i τ
 simp -implicitDefEqProofs (disch := omega) only [Nat.reduceEqDiff, ↓reduceIte, vcu, ↓vcd, opK_some, x4]
 refine (heldC_calls τ v2 cs.length (k + ps.length) (t2.sub s1) b3 (by omega)).mono ?_
 rintro _ _ ⟨rfl, rfl⟩
 simp -implicitDefEqProofs (disch := omega) only [Nat.reduceEqDiff, ↓reduceIte, vcu, ↓vcd, opK_some]
 refine fin_drop Tryz.results11 σ s1 ⟨?_, rfl⟩
 simp -implicitDefEqProofs (disch := omega) only [Nat.reduceEqDiff, ↓reduceIte, vcu, ↓vcd]
end Go.Proofs.YtafkndnmhhjdhaaGreatDoor
namespace Go.Proofs.YtafkndnmhhjdhaaGreatDoor
open Go Go.Abs Go.RowKit Go.Dial Go.Clos
def lineS (ps : List (List UInt8)) (t : List UInt8) : Int := match fstN (fun k => decide (ps.getD k [] = t)) 0 ps.length with | some k => k | none => -1
def lineV (e : Ex) (t : List UInt8) : Int := if ExOk e then lineS e.ps t else -1
theorem lineS_spec (ps : List (List UInt8)) (t : List UInt8) : (∃ k : Nat, k < ps.length ∧ lineS ps t = k ∧ ps.getD k [] = t) ∨ (lineS ps t = -1 ∧ ∀ k, k < ps.length → ps.getD k [] ≠ t) := by
 unfold lineS
 cases h : fstN (fun k => decide (ps.getD k [] = t)) 0 ps.length with
 | none => exact .inr ⟨rfl, fun k hk e => by have := fstN_none h (Nat.zero_le k) (by omega); exact absurd e (of_decide_eq_false this)⟩
 | some k =>
  obtain ⟨_, h1, h2⟩ := fstN_some h
  exact .inl ⟨k, by omega, rfl, by simpa using h2⟩
theorem lineS_lt {ps : List (List UInt8)} {t : List UInt8} : lineS ps t < ps.length := by
 rcases lineS_spec ps t with ⟨j, hj, e1, e2⟩ | ⟨e, _⟩
 ·omega
 ·omega
theorem lineS_ge {ps : List (List UInt8)} {t : List UInt8} : -1 ≤ lineS ps t := by
 rcases lineS_spec ps t with ⟨j, hj, e1, e2⟩ | ⟨e, _⟩ <;> omega
/-- the exchange after a deed that can be done -/
def doO (e : Ex) (d : Dd) : Option Ex :=
 if ¬ (0 ≤ d.l ∧ d.l ≤ (e.ps.length : Int) - 1) then none
 else if d.k = 0 then
  if lineS e.ps d.t < 0 ∨ lineS e.ps d.t = d.l ∨ 0 ≤ peerS e.cs d.l ∨ 0 ≤ peerS e.cs (lineS e.ps d.t) then none
  else some ⟨e.s, e.ps, moveL e.s e.cs d.l (lineS e.ps d.t)⟩
 else if d.k = 1 then
  if peerS e.cs d.l < 0 ∨ d.t ≠ [] then none
  else some ⟨e.s, e.ps, if (dropL e.cs d.l).length < e.cs.length then dropL e.cs d.l else dropL e.cs (peerS e.cs d.l)⟩
 else if d.k = 2 then
  if d.t = e.ps.getD d.l.toNat [] ∨ ¬ PlanOk (e.ps.set d.l.toNat d.t) then none
  else some ⟨e.s, e.ps.set d.l.toNat d.t, e.cs⟩
 else none
def exDo (e : Ex) (d : Dd) : Ex × Bool := if ExOk e then (match doO e d with | some x => (x, true) | none => (e, false)) else (ex0, false)
/-- what a deed that was done has done -/
structure Did (e : Ex) (d : Dd) (x : Ex) : Prop where
 ok : ExOk x
 s : x.s = e.s
 len : x.ps.length = e.ps.length
 ne : x ≠ e
 line : 0 ≤ d.l ∧ d.l < e.ps.length
 call : d.k = 0 → x.ps = e.ps ∧ (0 ≤ lineS e.ps d.t ∧ lineS e.ps d.t ≠ d.l) ∧ (∀ a b, Pr x.cs a b ↔ Pr e.cs a b ∨ (a = d.l ∧ b = lineS e.ps d.t) ∨ (a = lineS e.ps d.t ∧ b = d.l)) ∧ (∀ y, ¬ Pr e.cs d.l y) ∧ ∀ y, ¬ Pr e.cs (lineS e.ps d.t) y
 drop : d.k = 1 → x.ps = e.ps ∧ Pr e.cs d.l (peerS e.cs d.l) ∧ ∀ a b, Pr x.cs a b ↔ Pr e.cs a b ∧ a ≠ d.l ∧ a ≠ peerS e.cs d.l
 num : d.k = 2 → x.cs = e.cs
 kind : d.k = 0 ∨ d.k = 1 ∨ d.k = 2
/-- a call between two lines without calls can be put -/
theorem free_move {e : Ex} (h : ExOk e) {i o : Int} (hi : 0 ≤ i ∧ i < e.ps.length) (ho : 0 ≤ o ∧ o < e.ps.length) (hne : i ≠ o) (pi : ∀ y, ¬ Pr e.cs i y) (po : ∀ y, ¬ Pr e.cs o y) :
  Lines e.s i o ∧ ¬ Busy e.cs i o ∧ CV e.s (moveL e.s e.cs i o) ∧ SepC (moveL e.s e.cs i o) := by
 obtain ⟨h1, h2, h3, h4, h5⟩ := h
 have hl : Lines e.s i o := ⟨by omega, by omega⟩
 have hb : ¬ Busy e.cs i o := by
  rintro ⟨c, hc, rfl | rfl⟩
  ·exact pi c.o ⟨c, hc, .inl ⟨rfl, rfl⟩⟩
  ·exact po c.i ⟨c, hc, .inr ⟨rfl, rfl⟩⟩
 exact ⟨hl, hb, moveL_CV h1 h4 hl hb, move_sep h5 hne pi po⟩
theorem doO_did {e x : Ex} {d : Dd} (h : ExOk e) (hd : doO e d = some x) : Did e d x := by
 obtain ⟨h1, h2, h3, h4, h5⟩ := id h
 unfold doO at hd
 split at hd
 ·cases hd
 rename_i hl
 have hl : 0 ≤ d.l ∧ d.l < e.ps.length := by omega
 split at hd
 ·rename_i hk
  split at hd
  ·cases hd
  rename_i hn
  simp only [not_or] at hn
  obtain ⟨n1, n2, n3, n4⟩ := hn
  cases hd
  have pi := (peer_neg h4 (x := d.l)).1 (by omega)
  have po := (peer_neg h4 (x := lineS e.ps d.t)).1 (by omega)
  have hlt := lineS_lt (ps := e.ps) (t := d.t)
  obtain ⟨m1, m2, m3, m4⟩ := free_move h hl (show 0 ≤ lineS e.ps d.t ∧ lineS e.ps d.t < e.ps.length by omega) (fun e => n2 e.symm) pi po
  refine ⟨⟨h1, h2, h3, m3, m4⟩, rfl, rfl, fun ee => ?_, hl, fun _ => ⟨rfl, ⟨by omega, n2⟩, fun a b => pr_move, pi, po⟩, fun e => by omega, fun e => by omega, .inl hk⟩
  have := congrArg (fun e => e.cs.length) ee
  simp only [moveL_length] at this
  omega
 rename_i hk0
 split at hd
 ·rename_i hk
  split at hd
  ·cases hd
  rename_i hn
  simp only [not_or] at hn
  obtain ⟨n1, n2⟩ := hn
  cases hd
  have hp := peer_pos (s := e.s) (cs := e.cs) (x := d.l) h4 (by omega)
  -- the call that ends
  have key : ∃ i o, (∃ c ∈ e.cs, c.i = i ∧ c.o = o) ∧ ((i = d.l ∧ o = peerS e.cs d.l) ∨ (o = d.l ∧ i = peerS e.cs d.l)) ∧ (if (dropL e.cs d.l).length < e.cs.length then dropL e.cs d.l else dropL e.cs (peerS e.cs d.l)) = dropL e.cs i := by
   obtain ⟨c, hc, ⟨a1, a2⟩ | ⟨a1, a2⟩⟩ := hp
   ·have hlen := dropL_len h4 ⟨c, hc, a1⟩
    exact ⟨d.l, peerS e.cs d.l, ⟨c, hc, a1, a2⟩, .inl ⟨rfl, rfl⟩, if_pos (by omega)⟩
   ·have hno : dropL e.cs d.l = e.cs := dropL_no fun c' hc' e' => h5 c' hc' c hc (by rw [e', a1])
    exact ⟨peerS e.cs d.l, d.l, ⟨c, hc, a2, a1⟩, .inr ⟨rfl, rfl⟩, if_neg (by rw [hno]; omega)⟩
  obtain ⟨i, o, hio, hor, he⟩ := key
  rw [he]
  have hlen := dropL_len h4 (i := i) (by obtain ⟨c, hc, a, _⟩ := hio; exact ⟨c, hc, a⟩)
  refine ⟨⟨h1, h2, h3, h4.sub (dropL_sub _ _), sep_sub h5 fun c hc => (dropL_sub _ _).subset hc⟩, rfl, rfl, fun ee => ?_, hl, fun e => by omega, fun _ => ⟨rfl, hp, fun a b => ?_⟩, fun e => by omega, .inr (.inl hk)⟩
  ·have := congrArg (fun e => e.cs.length) ee
   simp only at this
   omega
  ·rw [pr_drop h4 h5 hio]
   rcases hor with ⟨rfl, rfl⟩ | ⟨rfl, rfl⟩
   ·exact Iff.rfl
   ·exact and_congr_right fun _ => And.comm
 rename_i hk1
 split at hd
 ·rename_i hk
  split at hd
  ·cases hd
  rename_i hn
  simp only [not_or] at hn
  obtain ⟨n1, n2⟩ := hn
  cases hd
  refine ⟨⟨h1, Classical.byContradiction n2, by rw [List.length_set]; exact h3, h4, h5⟩, rfl, by rw [List.length_set], fun ee => ?_, hl, fun e => by omega, fun e => by omega, fun _ => rfl, .inr (.inr hk)⟩
  have := congrArg (fun e => e.ps.getD d.l.toNat []) ee
  simp only [List.getD, List.getElem?_set, if_true] at this
  rw [if_pos (by omega)] at this
  exact n1 (by simpa [List.getD] using this)
 ·cases hd
section
variable {e x : Ex} {d : Dd} (h : ExOk e) (D : Did e d x)
include h D
end
/-- deeds one after the other -/
def runN (e : Ex) : List Dd → Ex × Nat
 | [] => (e, 0)
 | d :: ds => match doO e d with
  | some x => ((runN x ds).1, (runN x ds).2 + 1)
  | none => runN e ds
def exRun (e : Ex) (ds : List Dd) : Ex × Nat := if ExOk e then runN e ds else (ex0, 0)
/-- the deeds of the night -/
def nightL (cs : List Cl) : List Dd := cs.map fun c => ⟨1, c.i, []⟩
theorem night_run : ∀ (cs : List Cl) (s : Sp) (ps : List (List UInt8)), ExOk ⟨s, ps, cs⟩ → runN ⟨s, ps, cs⟩ (nightL cs) = (⟨s, ps, []⟩, cs.length)
 | [], s, ps, h => rfl
 | c :: cs, s, ps, h => by
  obtain ⟨h1, h2, h3, h4, h5⟩ := id h
  have hc : c ∈ c :: cs := by simp
  obtain ⟨r1, r2, -⟩ := h4.2.1 c hc
  have hp : peerS (c :: cs) c.i = c.o := by simp [peerS]
  have hdr : dropL (c :: cs) c.i = cs := by
   unfold dropL
   rw [List.filter_cons_of_neg (by simp)]
   refine List.filter_eq_self.2 fun d hd => ?_
   have hne : d.i ≠ c.i := fun e => by
    have hn := h4.ins
    rw [List.map_cons, List.nodup_cons] at hn
    exact hn.1 (List.mem_map.2 ⟨d, hd, e⟩)
   simpa using hne
  have hdo : doO ⟨s, ps, c :: cs⟩ ⟨1, c.i, []⟩ = some ⟨s, ps, cs⟩ := by
   unfold doO
   simp only at h3 r1 r2 ⊢
   rw [if_neg (fun hh => hh (by omega)), if_neg (by decide), if_pos trivial, hp, if_neg (by simp; omega), hdr, if_pos (by simp)]
  have ih := night_run cs s ps ⟨h1, h2, h3, h4.sub (List.sublist_cons_self _ _), sep_sub h5 fun d hd => by simp [hd]⟩
  show runN ⟨s, ps, c :: cs⟩ (⟨1, c.i, []⟩ :: nightL cs) = _
  rw [runN, hdo]
  simp only [ih]
  rfl
end Go.Proofs.YtafkndnmhhjdhaaGreatDoor
namespace Go.Proofs.YtafkndnmhhjdhaaGreatDoor
open Go Go.Abs Go.RowKit Go.Dial Go.Clos
def w_ok : List UInt8 := [111, 107]
def w_no : List UInt8 := [110, 111]
def w_wrong : List UInt8 := [119, 114, 111, 110, 103]
def w_busy : List UInt8 := [98, 117, 115, 121]
def w_night : List UInt8 := [110, 105, 103, 104, 116]
def w_calls : List UInt8 := [99, 97, 108, 108, 115]
def w_plan : List UInt8 := [112, 108, 97, 110]
def w_who : List UInt8 := [119, 104, 111]
def w_via : List UInt8 := [118, 105, 97]
def w_none : List UInt8 := [110, 111, 110, 101]
def w_what : List UInt8 := [119, 104, 97, 116]
theorem decN_ne (n : Nat) : decN n ≠ [] := by
 unfold decN
 split <;> simp
/-- the middle switch of the call of a line -/
def viaS : List Cl → Int → Int
 | [], _ => -1
 | c :: cs, x => if c.i = x ∨ c.o = x then c.v else viaS cs x
theorem viaS_ge {s : Sp} : ∀ {cs : List Cl}, (∀ c ∈ cs, Rg s c) → ∀ {x : Int}, 0 ≤ peerS cs x → 0 ≤ viaS cs x
 | [], _, x, hx => by simp [peerS] at hx
 | c :: cs, h, x, hx => by
  unfold viaS
  unfold peerS at hx
  by_cases h1 : c.i = x
  ·rw [if_pos (.inl h1)]; exact (h c (by simp)).2.2.1
  by_cases h2 : c.o = x
  ·rw [if_pos (.inr h2)]; exact (h c (by simp)).2.2.1
  rw [if_neg h1, if_neg h2] at hx
  rw [if_neg fun hh => hh.elim h1 h2]
  exact viaS_ge (fun d hd => h d (by simp [hd])) hx
/-- all numbers with commas between them: k of them behind the first -/
def joinT (ps : List (List UInt8)) : Nat → List UInt8
 | 0 => ps.getD 0 []
 | k + 1 => joinT ps k ++ ([44] ++ ps.getD (k + 1) [])
theorem joinT_ne {ps : List (List UInt8)} (h : ps.getD 0 [] ≠ []) : ∀ k, joinT ps k ≠ []
 | 0 => h
 | k + 1 => by simp [joinT]
/-- the answer to a line that is no deed -/
def askN (t : List UInt8) : Int := if (cutT 32 t).length = 2 then rdN ((cutT 32 t).getD 1 []) else -1
def ask0 (t : List UInt8) : List UInt8 := (cutT 32 t).getD 0 []
def refuse (e : Ex) (d : Dd) : List UInt8 := if d.k ≠ 0 ∨ (e.ps.length : Int) ≤ d.l then w_no else if lineS e.ps d.t < 0 then w_wrong else w_busy
def askT (e : Ex) (t : List UInt8) : List UInt8 :=
 if t = w_calls then decN e.cs.length
 else if t = w_plan then joinT e.ps (e.ps.length - 1)
 else if 0 ≤ askN t ∧ (ask0 t = w_who ∨ ask0 t = w_via) ∧ peerS e.cs (askN t) < 0 then w_none
 else if 0 ≤ askN t ∧ ask0 t = w_who then decN (peerS e.cs (askN t)).toNat
 else if 0 ≤ askN t ∧ ask0 t = w_via then decN (viaS e.cs (askN t)).toNat
 else w_what
def lineX (e : Ex) (t : List UInt8) : Ex × List UInt8 :=
 match readO t with
 | some d => match doO e d with
  | some x => (x, w_ok)
  | none => (e, refuse e d)
 | none => if t = w_night then (⟨e.s, e.ps, []⟩, w_ok) else (e, askT e t)
def exLine (e : Ex) (t : List UInt8) : Ex × List UInt8 := if ExOk e then lineX e t else (ex0, [])
theorem readO_night : readO w_night = none := by decide +kernel
theorem lineX_night (e : Ex) : lineX e w_night = (⟨e.s, e.ps, []⟩, w_ok) := by unfold lineX; rw [readO_night]; simp
theorem ex_quiet {e : Ex} (h : ExOk e) : ExOk ⟨e.s, e.ps, []⟩ := ⟨h.1, h.2.1, h.2.2.1, CV_nil.2 h.1.1, fun c hc => by cases hc⟩
theorem night_is {e : Ex} (h : ExOk e) : runN e (nightL e.cs) = (⟨e.s, e.ps, []⟩, e.cs.length) := night_run e.cs e.s e.ps h
theorem ex_plan {e : Ex} (h : ExOk e) : 1 ≤ e.ps.length ∧ e.ps.length ≤ 10 ∧ e.ps.getD 0 [] ≠ [] := by
 obtain ⟨h1, h2, h3, -⟩ := h
 have := h1.1.lines
 have hl : 1 ≤ e.ps.length := by omega
 refine ⟨hl, h2.2, fun e0 => ?_⟩
 have := (h2.1 0 (by omega)).2.1.1
 rw [e0] at this; simp at this
theorem askT_ne {e : Ex} (h : ExOk e) (t : List UInt8) : askT e t ≠ [] := by
 unfold askT
 split
 ·exact decN_ne _
 split
 ·exact joinT_ne (ex_plan h).2.2 _
 split
 ·decide
 split
 ·exact decN_ne _
 split
 ·exact decN_ne _
 ·decide
theorem refuse_cases (e : Ex) (d : Dd) : refuse e d = w_no ∨ refuse e d = w_wrong ∨ refuse e d = w_busy := by
 unfold refuse
 split
 ·exact .inl rfl
 split
 ·exact .inr (.inl rfl)
 ·exact .inr (.inr rfl)
theorem refuse_ne (e : Ex) (d : Dd) : refuse e d ≠ [] := by
 rcases refuse_cases e d with e1 | e1 | e1 <;> (rw [e1]; decide)
theorem lineX_ok {e : Ex} (h : ExOk e) (t : List UInt8) : ExOk (lineX e t).1 ∧ (lineX e t).2 ≠ [] ∧ ((lineX e t).2 = w_ok ∨ (lineX e t).1 = e) ∧ (lineX e t).1.s = e.s ∧ (lineX e t).1.ps.length = e.ps.length := by
 unfold lineX
 cases hr : readO t with
 | some d =>
  simp only
  cases hd : doO e d with
  | some x => have D := doO_did h hd; exact ⟨D.ok, (show w_ok ≠ [] by decide), .inl rfl, D.s, D.len⟩
  | none => exact ⟨h, refuse_ne e d, .inr rfl, rfl, rfl⟩
 | none =>
  simp only
  split
  ·exact ⟨ex_quiet h, (show w_ok ≠ [] by decide), .inl rfl, rfl, rfl⟩
  ·exact ⟨h, askT_ne h t, .inr rfl, rfl, rfl⟩
/-- lines one after the other -/
def linesN (e : Ex) : List (List UInt8) → Ex × List (List UInt8)
 | [] => (e, [])
 | t :: ts => ((linesN (lineX e t).1 ts).1, (lineX e t).2 :: (linesN (lineX e t).1 ts).2)
def exLines (e : Ex) (ts : List (List UInt8)) : Ex × List (List UInt8) := if ExOk e ∧ ts.length ≤ 40 then linesN e ts else (ex0, [])
theorem linesN_ok : ∀ (ts : List (List UInt8)) {e : Ex}, ExOk e → ExOk (linesN e ts).1 ∧ (linesN e ts).2.length = ts.length ∧ ∀ a ∈ (linesN e ts).2, a ≠ []
 | [], e, h => ⟨h, rfl, fun a ha => by cases ha⟩
 | t :: ts, e, h => by
  obtain ⟨h1, h2, _⟩ := lineX_ok h t
  obtain ⟨i1, i2, i3⟩ := linesN_ok ts h1
  refine ⟨i1, by simp [linesN, i2], fun a ha => ?_⟩
  rcases List.mem_cons.1 ha with rfl | ha
  ·exact h2
  ·exact i3 a ha
end Go.Proofs.YtafkndnmhhjdhaaGreatDoor
namespace Go.Clos
theorem take_gc {cs : List Cl} {k : Nat} (h : k < cs.length) : cs.take (k + 1) = cs.take k ++ [gc cs k] := by
 rw [List.take_succ_eq_append_getElem h]; simp [gc, List.getD, h]
/-- one call more is possible -/
theorem CV_take {s : Sp} {cs : List Cl} {k : Nat} (hk : k < cs.length) : CV s (cs.take (k + 1)) ↔ CV s (cs.take k) ∧ Rg s (gc cs k) ∧ ∀ d ∈ cs.take k, ¬ Hit s (gc cs k) d := by
 rw [take_gc hk, CV_snoc]
theorem CV.take {s : Sp} {cs : List Cl} (h : CV s cs) (k : Nat) : CV s (cs.take k) := h.sub (List.take_sublist _ _)
end Go.Clos
namespace Go.Clos
theorem flip_nil (a b : Int) (cs : List Cl) : flip a b [] cs = cs := by
 apply List.ext_getElem?
 intro j
 unfold flip
 rw [List.getElem?_mapIdx]
 cases cs[j]? <;> simp
theorem flip_step {a b : Int} {ch : List Nat} {cs : List Cl} {k : Nat} (hk : k < cs.length) (hm : k ∉ ch) : (flip a b ch cs).set k ⟨(gc cs k).i, (gc cs k).o, a + b - (gc cs k).v⟩ = flip a b (ch ++ [k]) cs ∧ gc (flip a b ch cs) k = gc cs k := by
 refine ⟨?_, by rw [flip_gc hk, if_neg hm]⟩
 apply List.ext_getElem?
 intro j
 rw [List.getElem?_set]
 have hl := flip_length a b ch cs
 by_cases e : k = j
 ·subst e
  rw [if_pos rfl, if_pos (by omega)]
  unfold flip
  rw [List.getElem?_mapIdx, gc_some hk]
  simp
 ·rw [if_neg e]
  unfold flip
  rw [List.getElem?_mapIdx, List.getElem?_mapIdx]
  cases hj : cs[j]? with
  | none => rfl
  | some c =>
   have : j ≠ k := fun h => e h.symm
   simp [this]
/-- an index, or that there is none, as the reference writes it -/
def nI : Option Nat → Int
 | none => -1
 | some k => k
theorem nxt_succ (s : Sp) (cs : List Cl) (ch : List Nat) (sd : Bool) (x w : Int) (n : Nat) : nI (nxt s cs ch sd x w (n + 1)) = if AtC s sd x w (gc cs n) ∧ n ∉ ch then (n : Int) else nI (nxt s cs ch sd x w n) := by
 conv => lhs; rw [nxt]
 split <;> rfl
def chI (ch : List Nat) : List Int := ch.map fun (k : Nat) => (k : Int)
theorem chI_length (ch : List Nat) : (chI ch).length = ch.length := by simp [chI]
theorem chI_getD {ch : List Nat} {k : Nat} (h : k < ch.length) : (chI ch).getD k 0 = (ch.getD k 0 : Nat) := by simp [chI, List.getD, h]
theorem mem_chI {ch : List Nat} {k : Nat} : (k : Int) ∈ chI ch ↔ k ∈ ch := by
 simp only [chI, List.mem_map]
 constructor
 ·rintro ⟨j, hj, e⟩
  have : j = k := by omega
  rw [← this]; exact hj
 ·intro h; exact ⟨k, h, rfl⟩
theorem chI_snoc (ch : List Nat) (k : Nat) : chI (ch ++ [k]) = chI ch ++ [(k : Int)] := by simp [chI]
theorem go_none {s : Sp} {cs : List Cl} {a b : Int} {f : Nat} {ch : List Nat} {sd : Bool} {x : Int} (h : nxt s cs ch sd x (wantOf a b sd) cs.length = none) : go s cs a b f ch sd x = ch := by
 cases f with
 | zero => rfl
 | succ f => rw [go, h]
theorem go_some {s : Sp} {cs : List Cl} {a b : Int} {f : Nat} {ch : List Nat} {sd : Bool} {x : Int} {k : Nat} (h : nxt s cs ch sd x (wantOf a b sd) cs.length = some k) : go s cs a b (f + 1) ch sd x = go s cs a b f (ch ++ [k]) (!sd) (sw s (!sd) (gc cs k)) := by
 rw [go, h]
/-- there is room for a next one -/
theorem Inv.room {s : Sp} {cs : List Cl} {a b B : Int} {ch : List Nat} {sd : Bool} {x w : Int} {k : Nat} (hi : Inv s cs a b B ch sd x) (h : nxt s cs ch sd x w cs.length = some k) : ch.length < cs.length := by
 obtain ⟨h1, -, h3⟩ := nxt_some h
 have := sub_len (xs := k :: ch) (ys := List.range cs.length) (List.nodup_cons.2 ⟨h3, hi.nd⟩) fun y hy => by
  rcases List.mem_cons.1 hy with rfl | hy
  ·exact List.mem_range.2 h1
  ·exact List.mem_range.2 (hi.lt y hy)
 simp at this; omega
theorem wantOf_not (a b : Int) (sd : Bool) : wantOf a b (!sd) = a + b - wantOf a b sd := by cases sd <;> simp [wantOf] <;> omega
theorem usedI_take {s : Sp} {cs : List Cl} {x : Int} {k : Nat} (h : k < cs.length) : usedI s (cs.take (k + 1)) x = usedI s (cs.take k) x ++ if (gc cs k).i / s.E = x then [(gc cs k).v] else [] := by
 unfold usedI
 rw [take_gc h, List.filter_append, List.map_append]
 congr 1
 by_cases e : (gc cs k).i / s.E = x <;> simp [e]
theorem usedO_take {s : Sp} {cs : List Cl} {x : Int} {k : Nat} (h : k < cs.length) : usedO s (cs.take (k + 1)) x = usedO s (cs.take k) x ++ if (gc cs k).o / s.E = x then [(gc cs k).v] else [] := by
 unfold usedO
 rw [take_gc h, List.filter_append, List.map_append]
 congr 1
 by_cases e : (gc cs k).o / s.E = x <;> simp [e]
theorem used_length (s : Sp) (cs : List Cl) (x : Int) : (usedI s cs x).length ≤ cs.length ∧ (usedO s cs x).length ≤ cs.length := by
 unfold usedI usedO
 rw [List.length_map, List.length_map]
 exact ⟨List.length_filter_le _ _, List.length_filter_le _ _⟩
theorem firstN_step (used : List Int) (n k : Nat) : firstN used (n + 1) k = if (k : Int) ∈ used then firstN used n (k + 1) else k := rfl
end Go.Clos
namespace Go.Proofs.YtafkndnmhhjdhaaGreatDoor
open Go Go.Abs Go.RowKit Go.Clos
variable {w0 : World}
set_option maxRecDepth 8000 in
theorem specSV_at (σ : AHeap) (O E M : Int) : ACall Tryz.prog w0 71 [.agg #[.int .i64 O, .int .i64 E, .int .i64 M]] σ fun r σ' => r = .bool (decide (SV ⟨O, E, M⟩)) ∧ σ' = σ := by
 refine acall_go mixed Tryz.func71 rfl good71 fun pr => ?_
 simp -implicitDefEqProofs (disch := omega) only [Nat.reduceEqDiff, ↓reduceIte, vcu, ↓vcd]
 refine r_boxed fun b τ nb s1 e1 => ?_
 replace e1 : τ b = some ⟨[.int .i64 O, .int .i64 E, .int .i64 M], false⟩ := e1
 have lO : ld τ b (0 + 0) = some (.int .i64 O) := ld_of e1 rfl
 have lE : ld τ b (0 + 1) = some (.int .i64 E) := ld_of e1 rfl
 have lM : ld τ b (0 + 2) = some (.int .i64 M) := ld_of e1 rfl
 simp -implicitDefEqProofs (disch := omega) only [Nat.reduceEqDiff, ↓reduceIte, vcu, ↓vcd, lO, lE, lM]
 refine (in_calls τ O 1 4).mono ?_
 rintro r _ ⟨rfl, rfl⟩
 rename_i τ
 by_cases h1 : 1 ≤ O ∧ O ≤ 4
 case neg =>
  have hS : ¬ SV ⟨O, E, M⟩ := fun h => h1 h.1
  rw [decide_eq_false h1, decide_eq_false hS]
  simp -implicitDefEqProofs (disch := omega) only [Nat.reduceEqDiff, ↓reduceIte, vcu, ↓vcd, opK_some]
  refine fin_drop Tryz.results71 σ s1 ⟨?_, rfl⟩
  simp -implicitDefEqProofs (disch := omega) only [Nat.reduceEqDiff, ↓reduceIte, vcu, ↓vcd]
 rw [decide_eq_true h1]
 simp -implicitDefEqProofs (disch := omega) only [Nat.reduceEqDiff, ↓reduceIte, vcu, ↓vcd, opK_some, lO, lE, lM]
 refine (in_calls τ E 1 3).mono ?_
 rintro r _ ⟨rfl, rfl⟩
 rename_i τ
 by_cases h2 : 1 ≤ E ∧ E ≤ 3
 case neg =>
  have hS : ¬ SV ⟨O, E, M⟩ := fun h => h2 h.2.1
  rw [decide_eq_false h2, decide_eq_false hS]
  simp -implicitDefEqProofs (disch := omega) only [Nat.reduceEqDiff, ↓reduceIte, vcu, ↓vcd, opK_some]
  refine fin_drop Tryz.results71 σ s1 ⟨?_, rfl⟩
  simp -implicitDefEqProofs (disch := omega) only [Nat.reduceEqDiff, ↓reduceIte, vcu, ↓vcd]
 rw [decide_eq_true h2]
 simp -implicitDefEqProofs (disch := omega) only [Nat.reduceEqDiff, ↓reduceIte, vcu, ↓vcd, opK_some, lO, lE, lM]
 refine (in_calls τ M 1 5).mono ?_
 rintro r _ ⟨rfl, rfl⟩
 by_cases h3 : 1 ≤ M ∧ M ≤ 5
 ·have hS : SV ⟨O, E, M⟩ := ⟨h1, h2, h3⟩
  rw [decide_eq_true h3, decide_eq_true hS]
  simp -implicitDefEqProofs (disch := omega) only [Nat.reduceEqDiff, ↓reduceIte, vcu, ↓vcd, opK_some]
  refine fin_drop Tryz.results71 σ s1 ⟨?_, rfl⟩
  simp -implicitDefEqProofs (disch := omega) only [Nat.reduceEqDiff, ↓reduceIte, vcu, ↓vcd]
 ·have hS : ¬ SV ⟨O, E, M⟩ := fun h => h3 h.2.2
  rw [decide_eq_false h3, decide_eq_false hS]
  simp -implicitDefEqProofs (disch := omega) only [Nat.reduceEqDiff, ↓reduceIte, vcu, ↓vcd, opK_some]
  refine fin_drop Tryz.results71 σ s1 ⟨?_, rfl⟩
  simp -implicitDefEqProofs (disch := omega) only [Nat.reduceEqDiff, ↓reduceIte, vcu, ↓vcd]
set_option maxRecDepth 8000 in
theorem specLines_at (σ : AHeap) (O E M : Int) (hS : SV ⟨O, E, M⟩) : ACall Tryz.prog w0 45 [.agg #[.int .i64 O, .int .i64 E, .int .i64 M]] σ fun r σ' => r = .int .i64 (O * E) ∧ σ' = σ := by
 have hL := hS.lines
 dsimp only at hL
 refine acall_go mixed Tryz.func45 rfl good45 fun pr => ?_
 simp -implicitDefEqProofs (disch := omega) only [Nat.reduceEqDiff, ↓reduceIte, vcu, ↓vcd]
 refine r_boxed fun b τ nb s1 e1 => ?_
 replace e1 : τ b = some ⟨[.int .i64 O, .int .i64 E, .int .i64 M], false⟩ := e1
 have lO : ld τ b (0 + 0) = some (.int .i64 O) := ld_of e1 rfl
 have lE : ld τ b (0 + 1) = some (.int .i64 E) := ld_of e1 rfl
 simp -implicitDefEqProofs (disch := omega) only [Nat.reduceEqDiff, ↓reduceIte, vcu, ↓vcd, lO, lE]
 refine fin_drop Tryz.results45 σ s1 ⟨?_, rfl⟩
 simp -implicitDefEqProofs (disch := omega) only [Nat.reduceEqDiff, ↓reduceIte, vcu, ↓vcd]
set_option maxRecDepth 8000 in
theorem specEnough_at (σ : AHeap) (O E M : Int) : ACall Tryz.prog w0 43 [.agg #[.int .i64 O, .int .i64 E, .int .i64 M]] σ fun r σ' => r = .bool (decide (Enough ⟨O, E, M⟩)) ∧ σ' = σ := by
 refine acall_go mixed Tryz.func43 rfl good43 fun pr => ?_
 simp -implicitDefEqProofs (disch := omega) only [Nat.reduceEqDiff, ↓reduceIte, vcu, ↓vcd]
 refine r_boxed fun b τ nb s1 e1 => ?_
 replace e1 : τ b = some ⟨[.int .i64 O, .int .i64 E, .int .i64 M], false⟩ := e1
 have lE : ld τ b (0 + 1) = some (.int .i64 E) := ld_of e1 rfl
 have lM : ld τ b (0 + 2) = some (.int .i64 M) := ld_of e1 rfl
 have l3 : lds τ b 0 3 = some [.int .i64 O, .int .i64 E, .int .i64 M] := lds_three (ld_of e1 rfl) (ld_of e1 rfl) (ld_of e1 rfl)
 simp -implicitDefEqProofs (disch := omega) only [Nat.reduceEqDiff, ↓reduceIte, vcu, ↓vcd, l3, co29]
 refine (specSV_at τ O E M).mono ?_
 rintro r _ ⟨rfl, rfl⟩
 rename_i τ
 by_cases hS : SV ⟨O, E, M⟩
 case neg =>
  have hE : ¬ Enough ⟨O, E, M⟩ := fun h => hS h.1
  rw [decide_eq_false hS, decide_eq_false hE]
  simp -implicitDefEqProofs (disch := omega) only [Nat.reduceEqDiff, ↓reduceIte, vcu, ↓vcd, opK_some]
  refine fin_drop Tryz.results43 σ s1 ⟨?_, rfl⟩
  simp -implicitDefEqProofs (disch := omega) only [Nat.reduceEqDiff, ↓reduceIte, vcu, ↓vcd]
 rw [decide_eq_true hS]
 have hd : decide (Enough ⟨O, E, M⟩) = decide (E ≤ M) := by
  by_cases h : E ≤ M
  ·rw [decide_eq_true h, decide_eq_true (show Enough ⟨O, E, M⟩ from ⟨hS, h⟩)]
  ·rw [decide_eq_false h, decide_eq_false (fun hE : Enough ⟨O, E, M⟩ => h hE.2)]
 rw [hd]
 simp -implicitDefEqProofs (disch := omega) only [Nat.reduceEqDiff, ↓reduceIte, vcu, ↓vcd, opK_some, lE, lM]
 refine fin_drop Tryz.results43 σ s1 ⟨?_, rfl⟩
 simp -implicitDefEqProofs (disch := omega) only [Nat.reduceEqDiff, ↓reduceIte, vcu, ↓vcd]
set_option maxRecDepth 8000 in
theorem specCV_at (σ : AHeap) (O E M : Int) (h o : Nat) (cs : List Cl) (hv : TrisAt σ h o cs) (hl : cs.length ≤ 1048576) :
  ACall Tryz.prog w0 46 [.agg #[.int .i64 O, .int .i64 E, .int .i64 M], .slice (some ⟨h, o, none⟩) cs.length 3] σ fun r σ' => r = .bool (decide (CV ⟨O, E, M⟩ cs)) ∧ σ' = σ := by
 refine acall_go mixed Tryz.func46 rfl good46 fun pr => ?_
 simp -implicitDefEqProofs (disch := omega) only [Nat.reduceEqDiff, ↓reduceIte, vcu, ↓vcd]
 refine r_boxed fun b τ nb s1 e1 => ?_
 replace e1 : τ b = some ⟨[.int .i64 O, .int .i64 E, .int .i64 M], false⟩ := e1
 have l3 : lds τ b 0 3 = some [.int .i64 O, .int .i64 E, .int .i64 M] := lds_three (ld_of e1 rfl) (ld_of e1 rfl) (ld_of e1 rfl)
 simp -implicitDefEqProofs (disch := omega) only [Nat.reduceEqDiff, ↓reduceIte, vcu, ↓vcd, l3, co29]
 refine (specSV_at τ O E M).mono ?_
 rintro r _ ⟨rfl, rfl⟩
 rename_i τ
 by_cases hS : SV ⟨O, E, M⟩
 case neg =>
  rw [decide_eq_false hS, decide_eq_false (fun hC : CV ⟨O, E, M⟩ cs => hS hC.1)]
  simp -implicitDefEqProofs (disch := omega) only [Nat.reduceEqDiff, ↓reduceIte, vcu, ↓vcd, opK_some, Bool.not_false]
  refine fin_drop Tryz.results46 σ s1 ⟨?_, rfl⟩
  simp -implicitDefEqProofs (disch := omega) only [Nat.reduceEqDiff, ↓reduceIte, vcu, ↓vcd]
 rw [decide_eq_true hS]
 have hL := hS.lines
 have hS' := hS
 obtain ⟨-, ⟨hE1, hE2⟩, hM1, hM2⟩ := hS'
 dsimp only at hL hE1 hE2 hM1 hM2
 simp -implicitDefEqProofs (disch := omega) only [Nat.reduceEqDiff, ↓reduceIte, vcu, ↓vcd, opK_some, Bool.not_true]
 refine vc_loop_c mixed (by kernel_rfl) [1, 2] (fun m a τ' => ∃ k : Nat, m + k = cs.length ∧ a 5 = .int .i64 k ∧ Sub τ τ' ∧ CV ⟨O, E, M⟩ (cs.take k)) cs.length ⟨0, by simp, rfl, Sub.refl _, by simpa using CV_nil.2 hS⟩ ?_
 rintro m a τ1 hc ⟨k, hk, h5, hs, hC⟩
 simp -implicitDefEqProofs (disch := omega) only [Nat.reduceEqDiff, ↓reduceIte, vcu, ↓vcd] at hc
 obtain ⟨h1, h2, -⟩ := hc
 by_cases hlt : k < cs.length
 case neg =>
  obtain rfl : k = cs.length := by omega
  rw [List.take_length] at hC
  rw [decide_eq_true hC]
  simp -implicitDefEqProofs (disch := omega) only [Nat.reduceEqDiff, ↓reduceIte, vcu, ↓vcd, h1, h2, h5]
  refine fin_drop Tryz.results46 σ (s1.trans hs) ⟨?_, rfl⟩
  simp -implicitDefEqProofs (disch := omega) only [Nat.reduceEqDiff, ↓reduceIte, vcu, ↓vcd]
 have hx := ((hv.sub s1).sub hs).all hlt
 have hgk : cs.getD k cl0 = gc cs k := rfl
 have htk := CV_take (s := ⟨O, E, M⟩) hlt
 have bad : ¬ (Rg ⟨O, E, M⟩ (gc cs k) ∧ ∀ d ∈ cs.take k, ¬ Hit ⟨O, E, M⟩ (gc cs k) d) → ¬ CV ⟨O, E, M⟩ cs := fun hn hC => hn (htk.1 (hC.take (k + 1))).2
 rw [hgk] at hx
 generalize gc cs k = c at hx htk bad
 obtain ⟨ci, co, cv⟩ := c
 dsimp only at hx
 simp -implicitDefEqProofs (disch := omega) only [Nat.reduceEqDiff, ↓reduceIte, vcu, ↓vcd, h1, h2, h5, hx, co76]
 refine r_local (cs := #[.int .i64 ci, .int .i64 co, .int .i64 cv]) ze76 (by decide) z9q (by rw [co76]; rfl) rfl rfl (Nat.zero_lt_succ _) fun g τ2 ng s2 e2 => ?_
 replace e2 : τ2 g = some ⟨[.int .i64 ci, .int .i64 co, .int .i64 cv], false⟩ := e2
 have li : ld τ2 g (0 + 0) = some (.int .i64 ci) := ld_of e2 rfl
 have lo : ld τ2 g (0 + 1) = some (.int .i64 co) := ld_of e2 rfl
 have lv : ld τ2 g (0 + 2) = some (.int .i64 cv) := ld_of e2 rfl
 have hs2 := hs.trans s2
 have f1 := hs2 _ _ e1
 have m3 : lds τ2 b 0 3 = some [.int .i64 O, .int .i64 E, .int .i64 M] := lds_three (ld_of f1 rfl) (ld_of f1 rfl) (ld_of f1 rfl)
 have mM : ld τ2 b (0 + 2) = some (.int .i64 M) := ld_of f1 rfl
 simp -implicitDefEqProofs (disch := omega) only [Nat.reduceEqDiff, ↓reduceIte, vcu, ↓vcd, h1, h2, h5, li, lo, lv, m3, mM, co29]
 rw [r_callq]
 refine ⟨_, specLines_at τ2 O E M hS, ?_⟩
 simp -implicitDefEqProofs (disch := omega) only [Nat.reduceEqDiff, ↓reduceIte, vcu, ↓vcd, h1, h2, h5, li, lo, lv, m3, mM, co29]
 rw [r_callq]
 refine ⟨_, in_calls τ2 _ _ _, ?_⟩
 by_cases hI : 0 ≤ ci ∧ ci ≤ O * E - 1
 case neg =>
  have hn := bad fun hh => hI hh.1.1
  rw [decide_eq_false hI, decide_eq_false hn]
  simp -implicitDefEqProofs (disch := omega) only [Nat.reduceEqDiff, ↓reduceIte, vcu, ↓vcd, Bool.not_false]
  refine fin_drop Tryz.results46 σ (s1.trans hs2) ⟨?_, rfl⟩
  simp -implicitDefEqProofs (disch := omega) only [Nat.reduceEqDiff, ↓reduceIte, vcu, ↓vcd]
 rw [decide_eq_true hI]
 simp -implicitDefEqProofs (disch := omega) only [Nat.reduceEqDiff, ↓reduceIte, vcu, ↓vcd, h1, h2, h5, li, lo, lv, m3, mM, co29, Bool.not_true]
 rw [r_callq]
 refine ⟨_, specLines_at τ2 O E M hS, ?_⟩
 simp -implicitDefEqProofs (disch := omega) only [Nat.reduceEqDiff, ↓reduceIte, vcu, ↓vcd, h1, h2, h5, li, lo, lv, m3, mM, co29]
 rw [r_callq]
 refine ⟨_, in_calls τ2 _ _ _, ?_⟩
 by_cases hO : 0 ≤ co ∧ co ≤ O * E - 1
 case neg =>
  have hn := bad fun hh => hO hh.1.2.1
  rw [decide_eq_false hO, decide_eq_false hn]
  simp -implicitDefEqProofs (disch := omega) only [Nat.reduceEqDiff, ↓reduceIte, vcu, ↓vcd, Bool.not_false]
  refine fin_drop Tryz.results46 σ (s1.trans hs2) ⟨?_, rfl⟩
  simp -implicitDefEqProofs (disch := omega) only [Nat.reduceEqDiff, ↓reduceIte, vcu, ↓vcd]
 rw [decide_eq_true hO]
 simp -implicitDefEqProofs (disch := omega) only [Nat.reduceEqDiff, ↓reduceIte, vcu, ↓vcd, h1, h2, h5, li, lo, lv, m3, mM, co29, Bool.not_true]
 rw [r_callq]
 refine ⟨_, in_calls τ2 _ _ _, ?_⟩
 by_cases hV : 0 ≤ cv ∧ cv ≤ M - 1
 case neg =>
  have hn := bad fun hh => hV hh.1.2.2
  rw [decide_eq_false hV, decide_eq_false hn]
  simp -implicitDefEqProofs (disch := omega) only [Nat.reduceEqDiff, ↓reduceIte, vcu, ↓vcd, Bool.not_false]
  refine fin_drop Tryz.results46 σ (s1.trans hs2) ⟨?_, rfl⟩
  simp -implicitDefEqProofs (disch := omega) only [Nat.reduceEqDiff, ↓reduceIte, vcu, ↓vcd]
 rw [decide_eq_true hV]
 have hRg : Rg ⟨O, E, M⟩ ⟨ci, co, cv⟩ := ⟨hI, hO, hV⟩
 simp -implicitDefEqProofs (disch := omega) only [Nat.reduceEqDiff, ↓reduceIte, vcu, ↓vcd, h1, h2, h5, Bool.not_true]
 refine vc_loop_c mixed (by kernel_rfl) [1, 2, 5, 6] (fun m a τ' => ∃ j : Nat, m + j = k ∧ a 7 = .int .i64 j ∧ Sub τ2 τ' ∧ ∀ d ∈ cs.take j, ¬ Hit ⟨O, E, M⟩ ⟨ci, co, cv⟩ d) k ⟨0, by simp, rfl, Sub.refl _, by simp⟩ ?_
 rintro m2 a2 τ3 hc2 ⟨j, hj, h7, hs3, hN⟩
 simp -implicitDefEqProofs (disch := omega) only [Nat.reduceEqDiff, ↓reduceIte, vcu, ↓vcd, h1, h2, h5] at hc2
 obtain ⟨q1, q2, q5, q6, -⟩ := hc2
 by_cases hjk : j < k
 case neg =>
  obtain rfl : j = k := by omega
  simp -implicitDefEqProofs (disch := omega) only [Nat.reduceEqDiff, ↓reduceIte, vcu, ↓vcd, q1, q2, q5, q6, h7]
  refine ⟨⟨trivial, trivial, trivial⟩, m - 1, by omega, j + 1, by omega, by simp, hs2.trans hs3, ?_⟩
  rw [htk]
  exact ⟨hC, hRg, hN⟩
 have hjl : j < cs.length := by omega
 have hy := (((hv.sub s1).sub hs2).sub hs3).all hjl
 have hgj : cs.getD j cl0 = gc cs j := rfl
 have hdk : gc cs j ∈ cs.take k := List.mem_of_getElem? (i := j) (by rw [List.getElem?_take, if_pos hjk]; exact gc_some hjl)
 have hdr := hC.2.1 _ hdk
 have bad2 : Hit ⟨O, E, M⟩ ⟨ci, co, cv⟩ (gc cs j) → ¬ CV ⟨O, E, M⟩ cs := fun hh => bad fun h2 => h2.2 _ hdk hh
 have hjt := take_gc hjl
 rw [hgj] at hy
 generalize gc cs j = d at hy hdk hdr bad2 hjt
 obtain ⟨di, do', dv⟩ := d
 obtain ⟨⟨d1, d2⟩, ⟨d3, d4⟩, d5, d6⟩ := hdr
 dsimp only at hy d1 d2 d3 d4 d5 d6
 simp -implicitDefEqProofs (disch := omega) only [Nat.reduceEqDiff, ↓reduceIte, vcu, ↓vcd, q1, q2, q5, q6, h7, hy, co76]
 refine r_local (cs := #[.int .i64 di, .int .i64 do', .int .i64 dv]) ze76 (by decide) z9q (by rw [co76]; rfl) rfl rfl (Nat.zero_lt_succ _) fun g2 τ4 ng4 s4 e4 => ?_
 replace e4 : τ4 g2 = some ⟨[.int .i64 di, .int .i64 do', .int .i64 dv], false⟩ := e4
 have hs4 := hs3.trans s4
 have f2 := hs4 _ _ e2
 have f3 := hs4 _ _ f1
 have ki : ld τ4 g (0 + 0) = some (.int .i64 ci) := ld_of f2 rfl
 have ko : ld τ4 g (0 + 1) = some (.int .i64 co) := ld_of f2 rfl
 have kv : ld τ4 g (0 + 2) = some (.int .i64 cv) := ld_of f2 rfl
 have ji : ld τ4 g2 (0 + 0) = some (.int .i64 di) := ld_of e4 rfl
 have jo : ld τ4 g2 (0 + 1) = some (.int .i64 do') := ld_of e4 rfl
 have jv : ld τ4 g2 (0 + 2) = some (.int .i64 dv) := ld_of e4 rfl
 have lE : ld τ4 b (0 + 1) = some (.int .i64 E) := ld_of f3 rfl
 have fine : ¬ Hit ⟨O, E, M⟩ ⟨ci, co, cv⟩ ⟨di, do', dv⟩ → ∀ d ∈ cs.take (j + 1), ¬ Hit ⟨O, E, M⟩ ⟨ci, co, cv⟩ d := fun hn d hd => by
  rw [hjt] at hd
  rcases List.mem_append.1 hd with hd | hd
  ·exact hN d hd
  ·rw [List.mem_singleton] at hd; subst hd; exact hn
 by_cases c1 : ci = di
 ·rw [decide_eq_false (bad2 (.inl c1))]
  simp -implicitDefEqProofs (disch := omega) only [Nat.reduceEqDiff, ↓reduceIte, vcu, ↓vcd, q1, q2, q5, q6, h7, ki, ko, kv, ji, jo, jv, lE]
  refine fin_drop Tryz.results46 σ (s1.trans (hs2.trans hs4)) ⟨?_, rfl⟩
  simp -implicitDefEqProofs (disch := omega) only [Nat.reduceEqDiff, ↓reduceIte, vcu, ↓vcd]
 by_cases c2 : co = do'
 ·rw [decide_eq_false (bad2 (.inr (.inl c2)))]
  simp -implicitDefEqProofs (disch := omega) only [Nat.reduceEqDiff, ↓reduceIte, vcu, ↓vcd, q1, q2, q5, q6, h7, ki, ko, kv, ji, jo, jv, lE]
  refine fin_drop Tryz.results46 σ (s1.trans (hs2.trans hs4)) ⟨?_, rfl⟩
  simp -implicitDefEqProofs (disch := omega) only [Nat.reduceEqDiff, ↓reduceIte, vcu, ↓vcd]
 by_cases c3 : cv = dv
 case neg =>
  have hn := fine fun hh => hh.elim c1 fun hh => hh.elim c2 fun hh => c3 hh.1
  simp -implicitDefEqProofs (disch := omega) only [Nat.reduceEqDiff, ↓reduceIte, vcu, ↓vcd, q1, q2, q5, q6, h7, ki, ko, kv, ji, jo, jv, lE]
  exact ⟨⟨h1.symm, h2.symm, h5.symm, trivial, trivial⟩, m2 - 1, by omega, j + 1, by omega, by simp, hs4, hn⟩
 by_cases c4 : ci / E = di / E
 ·rw [decide_eq_false (bad2 (.inr (.inr ⟨c3, .inl c4⟩)))]
  simp -implicitDefEqProofs (disch := omega) only [Nat.reduceEqDiff, ↓reduceIte, vcu, ↓vcd, q1, q2, q5, q6, h7, ki, ko, kv, ji, jo, jv, lE]
  refine fin_drop Tryz.results46 σ (s1.trans (hs2.trans hs4)) ⟨?_, rfl⟩
  simp -implicitDefEqProofs (disch := omega) only [Nat.reduceEqDiff, ↓reduceIte, vcu, ↓vcd]
 by_cases c5 : co / E = do' / E
 ·rw [decide_eq_false (bad2 (.inr (.inr ⟨c3, .inr c5⟩)))]
  simp -implicitDefEqProofs (disch := omega) only [Nat.reduceEqDiff, ↓reduceIte, vcu, ↓vcd, q1, q2, q5, q6, h7, ki, ko, kv, ji, jo, jv, lE]
  refine fin_drop Tryz.results46 σ (s1.trans (hs2.trans hs4)) ⟨?_, rfl⟩
  simp -implicitDefEqProofs (disch := omega) only [Nat.reduceEqDiff, ↓reduceIte, vcu, ↓vcd]
 have hn := fine fun hh => hh.elim c1 fun hh => hh.elim c2 fun hh => hh.2.elim c4 c5
 simp -implicitDefEqProofs (disch := omega) only [Nat.reduceEqDiff, ↓reduceIte, vcu, ↓vcd, q1, q2, q5, q6, h7, ki, ko, kv, ji, jo, jv, lE]
 exact ⟨⟨h1.symm, h2.symm, h5.symm, trivial, trivial⟩, m2 - 1, by omega, j + 1, by omega, by simp, hs4, hn⟩
end Go.Proofs.YtafkndnmhhjdhaaGreatDoor
namespace Go.Proofs.YtafkndnmhhjdhaaGreatDoor
open Go Go.Abs Go.RowKit Go.Dial Go.Clos
variable {w0 : World}
theorem rowC {σ : AHeap} {v : Value} {cs : List Cl} (h : Tris σ v cs) (h0 : 0 < cs.length) : ∃ g o, v = .slice (some ⟨g, o, none⟩) cs.length 3 ∧ TrisAt σ g o cs := by
 rcases h with ⟨_, rfl⟩ | h
 ·simp at h0
 ·exact h
theorem rowT {σ : AHeap} {v : Value} {xs : List (List UInt8)} (h : Texts σ v xs) (h0 : 0 < xs.length) : ∃ g o, v = .slice (some ⟨g, o, none⟩) xs.length 1 ∧ TextsAt σ g o xs := by
 rcases h with ⟨_, rfl⟩ | h
 ·simp at h0
 ·exact h
theorem lenC {σ : AHeap} {v : Value} {cs : List Cl} (h : Tris σ v cs) : alenV Tryz.prog 30 v = some (.int .i64 (cs.length : Int)) := by
 rcases h with ⟨rfl, rfl⟩ | ⟨g, o, rfl, -⟩ <;> exact alenV_slice Tryz.underlying30
theorem lenT {σ : AHeap} {v : Value} {xs : List (List UInt8)} (h : Texts σ v xs) : alenV Tryz.prog 24 v = some (.int .i64 (xs.length : Int)) := by
 rcases h with ⟨rfl, rfl⟩ | ⟨g, o, rfl, -⟩ <;> exact alenV_slice Tryz.underlying24
theorem specCV_calls (σ : AHeap) (O E M : Int) (v : Value) (cs : List Cl) (hv : Tris σ v cs) (hl : cs.length ≤ 1048576) :
  ACall Tryz.prog w0 46 [.agg #[.int .i64 O, .int .i64 E, .int .i64 M], v] σ fun r σ' => r = .bool (decide (CV ⟨O, E, M⟩ cs)) ∧ σ' = σ :=
 ACall.tris_quiet (pre := [_]) (post := []) (by kernel_rfl) hv fun σ1 h o _ hg => specCV_at σ1 O E M h o cs hg hl
theorem sep_of {cs : List Cl} (h : ∀ k, k < cs.length → ∀ j, j < cs.length → (gc cs k).i ≠ (gc cs j).o) : SepC cs := by
 intro c hc d hd
 obtain ⟨k, hk, rfl⟩ := mem_gc hc
 obtain ⟨j, hj, rfl⟩ := mem_gc hd
 exact h k hk j hj
set_option maxRecDepth 8000 in
theorem exVal_calls (σ : AHeap) (v : Value) (e : Ex) (hv : ExV σ v e) (hb : ExB e) :
  ACall Tryz.prog w0 20 [v] σ fun r σ' => r = .bool (decide (ExOk e)) ∧ σ' = σ := by
 obtain ⟨⟨O, E, M⟩, ps, cs⟩ := e
 obtain ⟨v1, v2, rfl, t1, t2⟩ := hv
 obtain ⟨b1, b2, b3⟩ := hb
 dsimp only at t1 t2 b1 b2 b3
 unfold exV
 refine acall_go mixed Tryz.func20 rfl good20 fun pr => ?_
 simp -implicitDefEqProofs (disch := omega) only [Nat.reduceEqDiff, ↓reduceIte, vcu, ↓vcd]
 refine r_boxed fun b τ nb s1 e1 => ?_
 replace e1 : τ b = some ⟨[.int .i64 O, .int .i64 E, .int .i64 M, v1, v2], false⟩ := e1
 have x0 : lds τ b 0 3 = some [.int .i64 O, .int .i64 E, .int .i64 M] := lds_three (ld_of e1 rfl) (ld_of e1 rfl) (ld_of e1 rfl)
 have x3 : ld τ b (0 + 3) = some v1 := ld_of e1 rfl
 have x4 : ld τ b (0 + 4) = some v2 := ld_of e1 rfl
 have l1 := lenT (t1.sub s1)
 have l2 := lenC (t2.sub s1)
 simp -implicitDefEqProofs (disch := omega) only [Nat.reduceEqDiff, ↓reduceIte, vcu, ↓vcd, x0, co29, Nat.add_zero]
 rw [r_callq]
 refine ⟨_, specEnough_at τ O E M, ?_⟩
 by_cases hE : Enough ⟨O, E, M⟩
 case neg =>
  rw [decide_eq_false hE]
  simp -implicitDefEqProofs (disch := omega) only [Nat.reduceEqDiff, ↓reduceIte, vcu, ↓vcd, Bool.not_false]
  refine fin_drop Tryz.results20 σ s1 ⟨?_, rfl⟩
  simp -implicitDefEqProofs (disch := omega) only [Nat.reduceEqDiff, ↓reduceIte, vcu, ↓vcd]
  rw [decide_eq_false fun h => hE h.1]
 rw [decide_eq_true hE]
 simp -implicitDefEqProofs (disch := omega) only [Nat.reduceEqDiff, ↓reduceIte, vcu, ↓vcd, Bool.not_true, x3]
 rw [r_callq]
 refine ⟨_, planValid_calls τ v1 ps (t1.sub s1) b1 b2, ?_⟩
 by_cases hP : PlanOk ps
 case neg =>
  rw [decide_eq_false hP]
  simp -implicitDefEqProofs (disch := omega) only [Nat.reduceEqDiff, ↓reduceIte, vcu, ↓vcd, Bool.not_false]
  refine fin_drop Tryz.results20 σ s1 ⟨?_, rfl⟩
  simp -implicitDefEqProofs (disch := omega) only [Nat.reduceEqDiff, ↓reduceIte, vcu, ↓vcd]
  rw [decide_eq_false fun h => hP h.2.1]
 rw [decide_eq_true hP]
 simp -implicitDefEqProofs (disch := omega) only [Nat.reduceEqDiff, ↓reduceIte, vcu, ↓vcd, Bool.not_true, x3, x0, l1, co29, Nat.add_zero]
 rw [r_callq]
 refine ⟨_, specLines_at τ O E M hE.1, ?_⟩
 by_cases hL : (ps.length : Int) = O * E
 case neg =>
  have d : decide ((ps.length : Int) ≠ O * E) = true := decide_eq_true hL
  simp -implicitDefEqProofs (disch := omega) only [Nat.reduceEqDiff, ↓reduceIte, vcu, ↓vcd, d]
  refine fin_drop Tryz.results20 σ s1 ⟨?_, rfl⟩
  simp -implicitDefEqProofs (disch := omega) only [Nat.reduceEqDiff, ↓reduceIte, vcu, ↓vcd]
  rw [decide_eq_false fun h => hL h.2.2.1]
 have d : decide ((ps.length : Int) ≠ O * E) = false := decide_eq_false fun h => h hL
 simp -implicitDefEqProofs (disch := omega) only [Nat.reduceEqDiff, ↓reduceIte, vcu, ↓vcd, d, x0, x4, co29, Nat.add_zero]
 rw [r_callq]
 refine ⟨_, specCV_calls τ O E M v2 cs (t2.sub s1) b3, ?_⟩
 by_cases hC : CV ⟨O, E, M⟩ cs
 case neg =>
  rw [decide_eq_false hC]
  simp -implicitDefEqProofs (disch := omega) only [Nat.reduceEqDiff, ↓reduceIte, vcu, ↓vcd, Bool.not_false]
  refine fin_drop Tryz.results20 σ s1 ⟨?_, rfl⟩
  simp -implicitDefEqProofs (disch := omega) only [Nat.reduceEqDiff, ↓reduceIte, vcu, ↓vcd]
  rw [decide_eq_false fun h => hC h.2.2.2.1]
 rw [decide_eq_true hC]
 simp -implicitDefEqProofs (disch := omega) only [Nat.reduceEqDiff, ↓reduceIte, vcu, ↓vcd, Bool.not_true]
 refine vc_loop_c mixed (by kernel_rfl) [1] (fun m a σ' => ∃ k : Nat, m + k = cs.length ∧ a 3 = .int .i64 k ∧ (∀ i, i < k → ∀ j, j < cs.length → (gc cs i).i ≠ (gc cs j).o) ∧ σ' = τ) cs.length ⟨0, by simp, rfl, fun i hi => absurd hi (by omega), rfl⟩ ?_
 rintro m a _ hc ⟨k, hk, h3, hall, rfl⟩
 rename_i τ
 simp -implicitDefEqProofs (disch := omega) only [Nat.reduceEqDiff, ↓reduceIte, vcu, ↓vcd] at hc
 obtain ⟨h1, -⟩ := hc
 by_cases hlt : k < cs.length
 case neg =>
  simp -implicitDefEqProofs (disch := omega) only [Nat.reduceEqDiff, ↓reduceIte, vcu, ↓vcd, h1, h3, x4, l2]
  refine fin_drop Tryz.results20 σ s1 ⟨?_, rfl⟩
  simp -implicitDefEqProofs (disch := omega) only [Nat.reduceEqDiff, ↓reduceIte, vcu, ↓vcd]
  rw [decide_eq_true ⟨hE, hP, hL, hC, sep_of (cs := cs) fun i hi j hj => hall i (by omega) j hj⟩]
 simp -implicitDefEqProofs (disch := omega) only [Nat.reduceEqDiff, ↓reduceIte, vcu, ↓vcd, h1, h3, x4, l2]
 refine vc_loop_c mixed (by kernel_rfl) [1, 3] (fun m a σ' => ∃ j : Nat, m + j = cs.length ∧ a 4 = .int .i64 j ∧ (∀ i, i < j → (gc cs k).i ≠ (gc cs i).o) ∧ σ' = τ) cs.length ⟨0, by simp, rfl, fun i hi => absurd hi (by omega), rfl⟩ ?_
 rintro m2 a2 _ hc2 ⟨j, hj, h4, hin, rfl⟩
 rename_i τ
 simp -implicitDefEqProofs (disch := omega) only [Nat.reduceEqDiff, ↓reduceIte, vcu, ↓vcd, h1, h3] at hc2
 obtain ⟨g1, g3, -⟩ := hc2
 by_cases hjl : j < cs.length
 case neg =>
  simp -implicitDefEqProofs (disch := omega) only [Nat.reduceEqDiff, ↓reduceIte, vcu, ↓vcd, g1, g3, h4, x4, l2]
  refine ⟨⟨by first | trivial | exact h1.symm, trivial⟩, m - 1, by omega, k + 1, by omega, by simp, fun i hi j' hj' => ?_, trivial⟩
  by_cases e : i = k
  ·subst e; exact hin j' (by omega)
  ·exact hall i (by omega) j' hj'
 obtain ⟨hg, ho, rfl, hrow⟩ := rowC (t2.sub s1) (by omega)
 have hx := (hrow k hlt).1
 have hy := (hrow j hjl).2.1
 have hgk : cs.getD k cl0 = gc cs k := rfl
 have hgj : cs.getD j cl0 = gc cs j := rfl
 rw [hgk] at hx
 rw [hgj] at hy
 by_cases hij : (gc cs k).i = (gc cs j).o
 ·have d2 : decide ((gc cs k).i = (gc cs j).o) = true := decide_eq_true hij
  simp -implicitDefEqProofs (disch := omega) only [Nat.reduceEqDiff, ↓reduceIte, vcu, ↓vcd, g1, g3, h4, x4, hx, hy, d2, Nat.add_zero]
  refine fin_drop Tryz.results20 σ s1 ⟨?_, rfl⟩
  simp -implicitDefEqProofs (disch := omega) only [Nat.reduceEqDiff, ↓reduceIte, vcu, ↓vcd]
  rw [decide_eq_false fun h => h.2.2.2.2 _ (gc_mem hlt) _ (gc_mem hjl) hij]
 ·have d2 : decide ((gc cs k).i = (gc cs j).o) = false := decide_eq_false hij
  simp -implicitDefEqProofs (disch := omega) only [Nat.reduceEqDiff, ↓reduceIte, vcu, ↓vcd, g1, g3, h4, x4, hx, hy, d2, Nat.add_zero]
  refine ⟨⟨by first | trivial | exact h1.symm, by first | trivial | exact h3.symm, trivial⟩, m2 - 1, by omega, j + 1, by omega, by simp, fun i hi => ?_, trivial⟩
  by_cases e : i = j
  ·subst e; exact hij
  ·exact hin i (by omega)
theorem drop_gc {cs : List Cl} {k : Nat} (h : k < cs.length) : cs.drop k = gc cs k :: cs.drop (k + 1) := by
 rw [List.drop_eq_getElem_cons h]; simp [gc, List.getD, h]
set_option maxRecDepth 8000 in
theorem peerOf_calls (σ : AHeap) (v : Value) (e : Ex) (x : Int) (hv : ExV σ v e) (hb : ExB e) :
  ACall Tryz.prog w0 30 [v, .int .i64 x] σ fun r σ' => r = .int .i64 (peerV e x) ∧ σ' = σ := by
 have hv0 := hv
 obtain ⟨⟨O, E, M⟩, ps, cs⟩ := e
 obtain ⟨v1, v2, rfl, t1, t2⟩ := hv
 have hb0 := hb
 obtain ⟨b1, b2, b3⟩ := hb
 dsimp only at t1 t2 b1 b2 b3
 unfold exV
 refine acall_go mixed Tryz.func30 rfl good30 fun pr => ?_
 simp -implicitDefEqProofs (disch := omega) only [Nat.reduceEqDiff, ↓reduceIte, vcu, ↓vcd]
 refine r_boxed fun b τ nb s1 e1 => ?_
 replace e1 : τ b = some ⟨[.int .i64 O, .int .i64 E, .int .i64 M, v1, v2], false⟩ := e1
 have x5 : lds τ b 0 5 = some [.int .i64 O, .int .i64 E, .int .i64 M, v1, v2] := by rw [lds_of e1 (by simp)]; rfl
 have x4 : ld τ b (0 + 4) = some v2 := ld_of e1 rfl
 have l2 := lenC (t2.sub s1)
 have hval := exVal_calls (w0 := w0) τ (exV v1 v2 ⟨⟨O, E, M⟩, ps, cs⟩) ⟨⟨O, E, M⟩, ps, cs⟩ (hv0.sub s1) hb0
 unfold exV at hval
 dsimp only at hval
 simp -implicitDefEqProofs (disch := omega) only [Nat.reduceEqDiff, ↓reduceIte, vcu, ↓vcd]
 refine vc_loop_c mixed (by kernel_rfl) [1, 2] (fun m a σ' => ∃ k : Nat, m + k = cs.length ∧ a 5 = .int .i64 k ∧ (0 < k → ExOk ⟨⟨O, E, M⟩, ps, cs⟩) ∧ peerS cs x = peerS (cs.drop k) x ∧ σ' = τ) cs.length ⟨0, by simp, rfl, fun h => absurd h (by omega), rfl, rfl⟩ ?_
 rintro m a _ hc ⟨k, hk, h5, hk0, hp, rfl⟩
 rename_i τ
 simp -implicitDefEqProofs (disch := omega) only [Nat.reduceEqDiff, ↓reduceIte, vcu, ↓vcd] at hc
 obtain ⟨h1, h2, -⟩ := hc
 by_cases hlt : k < cs.length
 case neg =>
  obtain rfl : k = cs.length := by omega
  simp -implicitDefEqProofs (disch := omega) only [Nat.reduceEqDiff, ↓reduceIte, vcu, ↓vcd, h1, h2, h5, x4, l2]
  refine fin_drop Tryz.results30 σ s1 ⟨?_, rfl⟩
  simp -implicitDefEqProofs (disch := omega) only [Nat.reduceEqDiff, ↓reduceIte, vcu, ↓vcd]
  rw [List.drop_length] at hp
  unfold peerV
  split
  ·show _ = Value.int .i64 (peerS cs x); rw [hp]; rfl
  ·rfl
 by_cases hok : ExOk ⟨⟨O, E, M⟩, ps, cs⟩
 case neg =>
  rw [decide_eq_false hok] at hval
  simp -implicitDefEqProofs (disch := omega) only [Nat.reduceEqDiff, ↓reduceIte, vcu, ↓vcd, h1, h2, h5, x4, l2, x5, co32]
  refine hval.mono ?_
  rintro _ _ ⟨rfl, rfl⟩
  simp -implicitDefEqProofs (disch := omega) only [Nat.reduceEqDiff, ↓reduceIte, vcu, ↓vcd, opK_some]
  refine fin_drop Tryz.results30 σ s1 ⟨?_, rfl⟩
  simp -implicitDefEqProofs (disch := omega) only [Nat.reduceEqDiff, ↓reduceIte, vcu, ↓vcd]
  rw [peerV, if_neg hok]
 rw [decide_eq_true hok] at hval
 have hpv : peerV ⟨⟨O, E, M⟩, ps, cs⟩ x = peerS cs x := if_pos hok
 rw [drop_gc hlt] at hp
 obtain ⟨hg, ho, rfl, hrow⟩ := rowC (t2.sub s1) (by omega)
 obtain ⟨hx, hy, -⟩ := hrow k hlt
 have hgk : cs.getD k cl0 = gc cs k := rfl
 rw [hgk] at hx hy
 have hpc : peerS (gc cs k :: cs.drop (k + 1)) x = if (gc cs k).i = x then (gc cs k).o else if (gc cs k).o = x then (gc cs k).i else peerS (cs.drop (k + 1)) x := rfl
 rw [hpc] at hp
 simp -implicitDefEqProofs (disch := omega) only [Nat.reduceEqDiff, ↓reduceIte, vcu, ↓vcd, h1, h2, h5, x4, l2, x5, co32]
 refine hval.mono ?_
 rintro _ _ ⟨rfl, rfl⟩
 rename_i τ
 by_cases hi : (gc cs k).i = x
 ·have d : decide ((gc cs k).i = x) = true := decide_eq_true hi
  rw [if_pos hi] at hp
  simp -implicitDefEqProofs (disch := omega) only [Nat.reduceEqDiff, ↓reduceIte, vcu, ↓vcd, opK_some, h1, h2, h5, x4, hx, hy, d, Nat.add_zero]
  refine fin_drop Tryz.results30 σ s1 ⟨?_, rfl⟩
  simp -implicitDefEqProofs (disch := omega) only [Nat.reduceEqDiff, ↓reduceIte, vcu, ↓vcd]
  rw [hpv, hp]
 have d : decide ((gc cs k).i = x) = false := decide_eq_false hi
 rw [if_neg hi] at hp
 by_cases ho' : (gc cs k).o = x
 ·have d2 : decide ((gc cs k).o = x) = true := decide_eq_true ho'
  rw [if_pos ho'] at hp
  simp -implicitDefEqProofs (disch := omega) only [Nat.reduceEqDiff, ↓reduceIte, vcu, ↓vcd, opK_some, h1, h2, h5, x4, hx, hy, d, d2, Nat.add_zero]
  refine fin_drop Tryz.results30 σ s1 ⟨?_, rfl⟩
  simp -implicitDefEqProofs (disch := omega) only [Nat.reduceEqDiff, ↓reduceIte, vcu, ↓vcd]
  rw [hpv, hp]
 have d2 : decide ((gc cs k).o = x) = false := decide_eq_false ho'
 rw [if_neg ho'] at hp
 simp -implicitDefEqProofs (disch := omega) only [Nat.reduceEqDiff, ↓reduceIte, vcu, ↓vcd, opK_some, h1, h2, h5, x4, hx, hy, d, d2, Nat.add_zero]
 exact ⟨⟨trivial, trivial, trivial⟩, m - 1, by omega, k + 1, by omega, by simp, fun _ => hok, hp, trivial⟩
end Go.Proofs.YtafkndnmhhjdhaaGreatDoor
namespace Go.Proofs.YtafkndnmhhjdhaaGreatDoor
open Go Go.Abs Go.RowKit Go.Dial Go.Clos
section
variable {P : Program} {w0 : Base} {n : NR} {a : AFrame} {σ : AHeap} {K : AK} {Q : AQ} {q : Bool} {all os : List Oper}
variable {d : Nat} {dd : Option Tmp} {ty : TypeId} {pos : String} {af : Array Edge}
/-- append a row of texts that may be nil to a row of one's own -/
theorem r_pushXV {t u : TypeId} {zv : Value} {b : Nat} {x y : Operand} {g len : Nat} {xs ys : List (List UInt8)} (hE : Elems P t 1 zv b) (hb : b ≤ 64) (hu : ∃ e2, P.underlying u = some (.slice e2))
  (hx : ev a x = .slice (some ⟨g, 0, none⟩) len 1) (hg : σ g = some ⟨texts xs, false⟩) (hn : xs.length = len) (hy : Texts σ (ev a y) ys) (hl : len + ys.length ≤ 4294967296)
  (hk : ∀ g' τ, σ g' = none → Kept g σ τ → τ g' = some ⟨texts (xs ++ ys), false⟩ → vcR P w0 false all os (fset a d (.slice (some ⟨g', 0, none⟩) (len + ys.length) 1)) τ K) :
  vcR P w0 false all (⟨some d, .call ⟨.builtin .append, #[x, y], #[t, u]⟩, ty, pos, af, none⟩ :: os) a σ K := by
 rcases hy with ⟨e, rfl⟩ | ⟨h, o, e, hat⟩
 ·subst hn
  refine r_push hE hu hx hg (by rw [texts_length]; omega) (D := []) (by rw [e]; rfl) rfl ?_ fun g' τ h1 h2 h3 => ?_
  ·have : xs.length * 1 * b ≤ 4294967296 * 64 := Nat.mul_le_mul (by simp at hl; omega) hb
   simp at hl
   refine ⟨?_, ?_⟩
   ·show (xs.length * 1 + 0) * b ≤ _
    rw [Nat.add_zero]; omega
   ·show xs.length * 1 + 0 ≤ _
    omega
  ·exact hk g' τ h1 h2 (by rw [List.append_nil]; rwa [List.append_nil] at h3)
 ·exact r_pushX hE hb hu hx hg hn e hat rfl hl hk
/-- the same of calls -/
theorem r_pushCV {t u : TypeId} {zv : Value} {b : Nat} {x y : Operand} {g len : Nat} {xs ys : List Cl} (hE : Elems P t 3 zv b) (hb : b ≤ 64) (hu : ∃ e2, P.underlying u = some (.slice e2))
  (hx : ev a x = .slice (some ⟨g, 0, none⟩) len 3) (hg : σ g = some ⟨tris xs, false⟩) (hn : xs.length = len) (hy : Tris σ (ev a y) ys) (hl : len + ys.length ≤ 4294967296)
  (hk : ∀ g' τ, σ g' = none → Kept g σ τ → τ g' = some ⟨tris (xs ++ ys), false⟩ → vcR P w0 false all os (fset a d (.slice (some ⟨g', 0, none⟩) (len + ys.length) 3)) τ K) :
  vcR P w0 false all (⟨some d, .call ⟨.builtin .append, #[x, y], #[t, u]⟩, ty, pos, af, none⟩ :: os) a σ K := by
 rcases hy with ⟨e, rfl⟩ | ⟨h, o, e, hat⟩
 ·subst hn
  refine r_push hE hu hx hg (by rw [tris_length]) (D := []) (by rw [e]; rfl) rfl ?_ fun g' τ h1 h2 h3 => ?_
  ·have : xs.length * 3 * b ≤ 4294967296 * 3 * 64 := Nat.mul_le_mul (by simp at hl; omega) hb
   simp at hl
   refine ⟨?_, ?_⟩
   ·show (xs.length * 3 + 0) * b ≤ _
    rw [Nat.add_zero]; omega
   ·show xs.length * 3 + 0 ≤ _
    omega
  ·exact hk g' τ h1 h2 (by rw [List.append_nil]; rwa [List.append_nil] at h3)
 ·exact r_pushC hE hb hu hx hg hn e hat rfl hl hk
end
variable {w0 : World}
set_option maxRecDepth 8000 in
theorem lineOf_calls (σ : AHeap) (v : Value) (e : Ex) (t : List UInt8) (hv : ExV σ v e) (hb : ExB e) :
  ACall Tryz.prog w0 26 [v, .string (tx t)] σ fun r σ' => r = .int .i64 (lineV e t) ∧ σ' = σ := by
 have hv0 := hv
 obtain ⟨⟨O, E, M⟩, ps, cs⟩ := e
 obtain ⟨v1, v2, rfl, t1, t2⟩ := hv
 have hb0 := hb
 obtain ⟨b1, b2, b3⟩ := hb
 dsimp only at t1 t2 b1 b2 b3
 unfold exV
 refine acall_go mixed Tryz.func26 rfl good26 fun pr => ?_
 simp -implicitDefEqProofs (disch := omega) only [Nat.reduceEqDiff, ↓reduceIte, vcu, ↓vcd]
 refine r_boxed fun b τ nb s1 e1 => ?_
 replace e1 : τ b = some ⟨[.int .i64 O, .int .i64 E, .int .i64 M, v1, v2], false⟩ := e1
 have x5 : lds τ b 0 5 = some [.int .i64 O, .int .i64 E, .int .i64 M, v1, v2] := by rw [lds_of e1 (by simp)]; rfl
 have x3 : ld τ b (0 + 3) = some v1 := ld_of e1 rfl
 have l1 := lenT (t1.sub s1)
 have hval := exVal_calls (w0 := w0) τ (exV v1 v2 ⟨⟨O, E, M⟩, ps, cs⟩) ⟨⟨O, E, M⟩, ps, cs⟩ (hv0.sub s1) hb0
 unfold exV at hval
 dsimp only at hval
 simp -implicitDefEqProofs (disch := omega) only [Nat.reduceEqDiff, ↓reduceIte, vcu, ↓vcd]
 refine vc_loop_c mixed (by kernel_rfl) [1, 2] (fun m a σ' => ∃ k : Nat, m + k = ps.length ∧ a 5 = .int .i64 k ∧ (0 < k → ExOk ⟨⟨O, E, M⟩, ps, cs⟩) ∧ fstN (fun k => decide (ps.getD k [] = t)) 0 ps.length = fstN (fun k => decide (ps.getD k [] = t)) k m ∧ σ' = τ) ps.length ⟨0, by simp, rfl, fun h => absurd h (by omega), rfl, rfl⟩ ?_
 rintro m a _ hc ⟨k, hk, h5, hk0, hp, rfl⟩
 rename_i τ
 simp -implicitDefEqProofs (disch := omega) only [Nat.reduceEqDiff, ↓reduceIte, vcu, ↓vcd] at hc
 obtain ⟨h1, h2, -⟩ := hc
 by_cases hlt : k < ps.length
 case neg =>
  obtain rfl : m = 0 := by omega
  simp -implicitDefEqProofs (disch := omega) only [Nat.reduceEqDiff, ↓reduceIte, vcu, ↓vcd, h1, h2, h5, x3, l1]
  refine fin_drop Tryz.results26 σ s1 ⟨?_, rfl⟩
  simp -implicitDefEqProofs (disch := omega) only [Nat.reduceEqDiff, ↓reduceIte, vcu, ↓vcd]
  unfold lineV
  split
  ·show _ = Value.int .i64 (lineS ps t)
   unfold lineS; rw [hp]; rfl
  ·rfl
 by_cases hok : ExOk ⟨⟨O, E, M⟩, ps, cs⟩
 case neg =>
  rw [decide_eq_false hok] at hval
  simp -implicitDefEqProofs (disch := omega) only [Nat.reduceEqDiff, ↓reduceIte, vcu, ↓vcd, h1, h2, h5, x3, l1, x5, co32]
  refine hval.mono ?_
  rintro _ _ ⟨rfl, rfl⟩
  simp -implicitDefEqProofs (disch := omega) only [Nat.reduceEqDiff, ↓reduceIte, vcu, ↓vcd, opK_some]
  refine fin_drop Tryz.results26 σ s1 ⟨?_, rfl⟩
  simp -implicitDefEqProofs (disch := omega) only [Nat.reduceEqDiff, ↓reduceIte, vcu, ↓vcd]
  rw [lineV, if_neg hok]
 rw [decide_eq_true hok] at hval
 have hpv : lineV ⟨⟨O, E, M⟩, ps, cs⟩ t = lineS ps t := if_pos hok
 obtain ⟨m', rfl⟩ : ∃ m', m = m' + 1 := ⟨m - 1, by omega⟩
 rw [fstN] at hp
 obtain ⟨hg, ho, rfl, hrow⟩ := rowT (t1.sub s1) (by omega)
 have hx := hrow k hlt
 simp -implicitDefEqProofs (disch := omega) only [Nat.reduceEqDiff, ↓reduceIte, vcu, ↓vcd, h1, h2, h5, x3, l1, x5, co32]
 refine hval.mono ?_
 rintro _ _ ⟨rfl, rfl⟩
 rename_i τ
 by_cases hi : ps.getD k [] = t
 ·have d : decide (ps.getD k [] = t) = true := decide_eq_true hi
  rw [d, if_pos rfl] at hp
  simp -implicitDefEqProofs (disch := omega) only [Nat.reduceEqDiff, ↓reduceIte, vcu, ↓vcd, opK_some, h1, h2, h5, x3, hx, abin_seql, d]
  refine fin_drop Tryz.results26 σ s1 ⟨?_, rfl⟩
  simp -implicitDefEqProofs (disch := omega) only [Nat.reduceEqDiff, ↓reduceIte, vcu, ↓vcd]
  rw [hpv]; unfold lineS; rw [hp]
 have d : decide (ps.getD k [] = t) = false := decide_eq_false hi
 rw [d, if_neg (by simp)] at hp
 simp -implicitDefEqProofs (disch := omega) only [Nat.reduceEqDiff, ↓reduceIte, vcu, ↓vcd, opK_some, h1, h2, h5, x3, hx, abin_seql, d]
 exact ⟨⟨trivial, trivial, trivial⟩, m', by omega, k + 1, by omega, by simp, fun _ => hok, hp, trivial⟩
set_option maxRecDepth 8000 in
theorem via_calls (σ : AHeap) (v : Value) (e : Ex) (x : Int) (hv : ExV σ v e) (hb : ExB e) :
  ACall Tryz.prog w0 31 [v, .int .i64 x] σ fun r σ' => r = .int .i64 (viaS e.cs x) ∧ σ' = σ := by
 obtain ⟨⟨O, E, M⟩, ps, cs⟩ := e
 obtain ⟨v1, v2, rfl, t1, t2⟩ := hv
 obtain ⟨b1, b2, b3⟩ := hb
 dsimp only at t1 t2 b1 b2 b3
 unfold exV
 refine acall_go mixed Tryz.func31 rfl good31 fun pr => ?_
 simp -implicitDefEqProofs (disch := omega) only [Nat.reduceEqDiff, ↓reduceIte, vcu, ↓vcd]
 refine r_boxed fun b τ nb s1 e1 => ?_
 replace e1 : τ b = some ⟨[.int .i64 O, .int .i64 E, .int .i64 M, v1, v2], false⟩ := e1
 have x4 : ld τ b (0 + 4) = some v2 := ld_of e1 rfl
 have l2 := lenC (t2.sub s1)
 simp -implicitDefEqProofs (disch := omega) only [Nat.reduceEqDiff, ↓reduceIte, vcu, ↓vcd]
 refine vc_loop_c mixed (by kernel_rfl) [1, 2] (fun m a σ' => ∃ k : Nat, m + k = cs.length ∧ a 5 = .int .i64 k ∧ viaS cs x = viaS (cs.drop k) x ∧ σ' = τ) cs.length ⟨0, by simp, rfl, rfl, rfl⟩ ?_
 rintro m a _ hc ⟨k, hk, h5, hp, rfl⟩
 rename_i τ
 simp -implicitDefEqProofs (disch := omega) only [Nat.reduceEqDiff, ↓reduceIte, vcu, ↓vcd] at hc
 obtain ⟨h1, h2, -⟩ := hc
 by_cases hlt : k < cs.length
 case neg =>
  obtain rfl : k = cs.length := by omega
  simp -implicitDefEqProofs (disch := omega) only [Nat.reduceEqDiff, ↓reduceIte, vcu, ↓vcd, h1, h2, h5, x4, l2]
  refine fin_drop Tryz.results31 σ s1 ⟨?_, rfl⟩
  simp -implicitDefEqProofs (disch := omega) only [Nat.reduceEqDiff, ↓reduceIte, vcu, ↓vcd]
  rw [List.drop_length] at hp
  show _ = Value.int .i64 (viaS cs x); rw [hp]; rfl
 rw [drop_gc hlt] at hp
 obtain ⟨hg, ho, rfl, hrow⟩ := rowC (t2.sub s1) (by omega)
 obtain ⟨hx, hy, hz⟩ := hrow k hlt
 have hgk : cs.getD k cl0 = gc cs k := rfl
 rw [hgk] at hx hy hz
 have hpc : viaS (gc cs k :: cs.drop (k + 1)) x = if (gc cs k).i = x ∨ (gc cs k).o = x then (gc cs k).v else viaS (cs.drop (k + 1)) x := rfl
 rw [hpc] at hp
 by_cases hi : (gc cs k).i = x
 ·have d : decide ((gc cs k).i = x) = true := decide_eq_true hi
  rw [if_pos (.inl hi)] at hp
  simp -implicitDefEqProofs (disch := omega) only [Nat.reduceEqDiff, ↓reduceIte, vcu, ↓vcd, h1, h2, h5, x4, l2, hx, hz, d, Nat.add_zero]
  refine fin_drop Tryz.results31 σ s1 ⟨?_, rfl⟩
  simp -implicitDefEqProofs (disch := omega) only [Nat.reduceEqDiff, ↓reduceIte, vcu, ↓vcd]
  rw [hp]
 have d : decide ((gc cs k).i = x) = false := decide_eq_false hi
 by_cases ho' : (gc cs k).o = x
 ·have d2 : decide ((gc cs k).o = x) = true := decide_eq_true ho'
  rw [if_pos (.inr ho')] at hp
  simp -implicitDefEqProofs (disch := omega) only [Nat.reduceEqDiff, ↓reduceIte, vcu, ↓vcd, h1, h2, h5, x4, l2, hx, hy, hz, d, d2, Nat.add_zero]
  refine fin_drop Tryz.results31 σ s1 ⟨?_, rfl⟩
  simp -implicitDefEqProofs (disch := omega) only [Nat.reduceEqDiff, ↓reduceIte, vcu, ↓vcd]
  rw [hp]
 have d2 : decide ((gc cs k).o = x) = false := decide_eq_false ho'
 rw [if_neg fun h => h.elim hi ho'] at hp
 simp -implicitDefEqProofs (disch := omega) only [Nat.reduceEqDiff, ↓reduceIte, vcu, ↓vcd, h1, h2, h5, x4, l2, hx, hy, d, d2, Nat.add_zero]
 exact ⟨⟨trivial, trivial, trivial⟩, m - 1, by omega, k + 1, by omega, by simp, hp, trivial⟩
/-- the deeds of the night, none for exchanges that are not valid -/
def nightV (e : Ex) : List Dd := if ExOk e then nightL e.cs else []
set_option maxRecDepth 8000 in
theorem night_calls (σ : AHeap) (v : Value) (e : Ex) (hv : ExV σ v e) (hb : ExB e) :
  ACall Tryz.prog w0 28 [v] σ fun r σ' => Sub σ σ' ∧ OwnD σ σ' r (nightV e) := by
 have hv0 := hv
 obtain ⟨⟨O, E, M⟩, ps, cs⟩ := e
 obtain ⟨v1, v2, rfl, t1, t2⟩ := hv
 have hb0 := hb
 obtain ⟨b1, b2, b3⟩ := hb
 dsimp only at t1 t2 b1 b2 b3
 unfold exV
 refine acall_go mixed Tryz.func28 rfl good28 fun pr => ?_
 simp -implicitDefEqProofs (disch := omega) only [Nat.reduceEqDiff, ↓reduceIte, vcu, ↓vcd]
 refine r_boxed fun b τ nb s1 e1 => ?_
 replace e1 : τ b = some ⟨[.int .i64 O, .int .i64 E, .int .i64 M, v1, v2], false⟩ := e1
 simp -implicitDefEqProofs (disch := omega) only [Nat.reduceEqDiff, ↓reduceIte, vcu, ↓vcd]
 refine r_lit el59 (out := #[]) (by kernel_rfl) (by kernel_rfl) fun e0 τ1 n1 s2 w1 => ?_
 have x5 : ∀ τ', Sub τ τ' → lds τ' b 0 5 = some [.int .i64 O, .int .i64 E, .int .i64 M, v1, v2] := fun τ' hs => by rw [lds_of (hs _ _ e1) (by simp)]; rfl
 have x4 : ∀ τ', Sub τ τ' → ld τ' b (0 + 4) = some v2 := fun τ' hs => ld_of (hs _ _ e1) rfl
 have l2 := lenC (t2.sub s1)
 have hval := fun (τ' : AHeap) (hs : Sub τ τ') => exVal_calls (w0 := w0) τ' (exV v1 v2 ⟨⟨O, E, M⟩, ps, cs⟩) ⟨⟨O, E, M⟩, ps, cs⟩ (hv0.sub (s1.trans hs)) hb0
 unfold exV at hval
 dsimp only at hval
 simp -implicitDefEqProofs (disch := omega) only [Nat.reduceEqDiff, ↓reduceIte, vcu, ↓vcd]
 refine vc_loop_c mixed (by kernel_rfl) [1] (fun m a τ' => ∃ (k g : Nat), m + k = cs.length ∧ a 4 = .int .i64 k ∧ (0 < k → ExOk ⟨⟨O, E, M⟩, ps, cs⟩) ∧ a 3 = .slice (some ⟨g, 0, none⟩) k 3 ∧ Sub τ τ' ∧ τ' g = some ⟨dds (nightL (cs.take k)), false⟩ ∧ τ g = none) cs.length ⟨0, e0, by simp, rfl, fun h => absurd h (by omega), rfl, s2, w1, n1⟩ ?_
 rintro m a τ2 hc ⟨k, g, hk, h4, hk0, h3, hs, hg, hn⟩
 simp -implicitDefEqProofs (disch := omega) only [Nat.reduceEqDiff, ↓reduceIte, vcu, ↓vcd] at hc
 obtain ⟨h1, -⟩ := hc
 have y4 := x4 τ2 hs
 have y5 := x5 τ2 hs
 have hval := hval τ2 hs
 have hlen : (nightL (cs.take k)).length = k := by simp [nightL]; omega
 by_cases hlt : k < cs.length
 case neg =>
  obtain rfl : k = cs.length := by omega
  simp -implicitDefEqProofs (disch := omega) only [Nat.reduceEqDiff, ↓reduceIte, vcu, ↓vcd, h1, h3, h4, y4, l2]
  rw [List.take_length] at hg
  have hV : nightV ⟨⟨O, E, M⟩, ps, cs⟩ = nightL cs := by
   unfold nightV
   split
   ·rfl
   ·rename_i hno
    have h0 : cs = [] := by
     rcases Nat.eq_zero_or_pos cs.length with h | h
     ·exact List.eq_nil_of_length_eq_zero h
     ·exact absurd (hk0 h) hno
    rw [h0]; rfl
  refine fin_one Tryz.results28 ⟨s1.trans hs, .inr ⟨g, ?_, by rw [hV]; exact hg, free_sub s1 hn⟩⟩
  simp -implicitDefEqProofs (disch := omega) only [Nat.reduceEqDiff, ↓reduceIte, vcu, ↓vcd, h3]
  rw [hV]; simp [nightL]
 by_cases hok : ExOk ⟨⟨O, E, M⟩, ps, cs⟩
 case neg =>
  rw [decide_eq_false hok] at hval
  have hV : nightV ⟨⟨O, E, M⟩, ps, cs⟩ = [] := if_neg hok
  obtain rfl : k = 0 := by
   rcases Nat.eq_zero_or_pos k with h | h
   ·exact h
   ·exact absurd (hk0 h) hok
  simp -implicitDefEqProofs (disch := omega) only [Nat.reduceEqDiff, ↓reduceIte, vcu, ↓vcd, h1, h3, h4, y4, l2, y5, co32]
  refine hval.mono ?_
  rintro _ _ ⟨rfl, rfl⟩
  simp -implicitDefEqProofs (disch := omega) only [Nat.reduceEqDiff, ↓reduceIte, vcu, ↓vcd, opK_some, h3]
  refine fin_one Tryz.results28 ⟨s1.trans hs, .inr ⟨g, ?_, by rw [hV]; exact hg, free_sub s1 hn⟩⟩
  simp -implicitDefEqProofs (disch := omega) only [Nat.reduceEqDiff, ↓reduceIte, vcu, ↓vcd, h3]
  rw [hV]; rfl
 rw [decide_eq_true hok] at hval
 obtain ⟨hg', ho, rfl, hrow⟩ := rowC ((t2.sub s1).sub hs) (by omega)
 obtain ⟨hx, -, -⟩ := hrow k hlt
 have hgk : cs.getD k cl0 = gc cs k := rfl
 rw [hgk] at hx
 have htk : nightL (cs.take (k + 1)) = nightL (cs.take k) ++ [⟨1, (gc cs k).i, []⟩] := by
  rw [take_gc hlt]; simp [nightL]
 simp -implicitDefEqProofs (disch := omega) only [Nat.reduceEqDiff, ↓reduceIte, vcu, ↓vcd, h1, h3, h4, y4, l2, y5, co32]
 refine hval.mono ?_
 rintro _ _ ⟨rfl, rfl⟩
 rename_i τ2
 simp -implicitDefEqProofs (disch := omega) only [Nat.reduceEqDiff, ↓reduceIte, vcu, ↓vcd, opK_some, h1, h3, h4, y4, hx, Nat.add_zero]
 rw [r_build]
 refine ⟨(_, #[.int .i64 1, .int .i64 (gc cs k).i, .string (tx [])]), ⟨ze48, by simp -implicitDefEqProofs (disch := omega) only [Nat.reduceEqDiff, ↓reduceIte, vcu, ↓vcd]; kernel_rfl⟩, ?_⟩
 simp -implicitDefEqProofs (disch := omega) only [Nat.reduceEqDiff, ↓reduceIte, vcu, ↓vcd]
 refine r_lit el59 (out := #[.int .i64 1, .int .i64 (gc cs k).i, .string (tx [])]) (by first | kernel_rfl | (simp -implicitDefEqProofs (disch := omega) only [Nat.reduceEqDiff, ↓reduceIte, vcu, ↓vcd]; kernel_rfl)) (by rfl) fun e3 τ3 n3 s3 w3 => ?_
 replace w3 : τ3 e3 = some ⟨dds [⟨1, (gc cs k).i, []⟩], false⟩ := w3
 refine r_pushD (g := g) (e := e3) (o := 0) (cs := nightL (cs.take k)) (ds := [⟨1, (gc cs k).i, []⟩]) (m := 1) (len := k) el59 (by omega) sl59 (by simp -implicitDefEqProofs (disch := omega) only [Nat.reduceEqDiff, ↓reduceIte, vcu, ↓vcd, h3]) (s3 _ _ hg) hlen z9q (ddsAt_own w3) rfl (by omega) fun g6 τ6 n6 k6 w6 => ?_
 rw [← htk] at w6
 simp -implicitDefEqProofs (disch := omega) only [Nat.reduceEqDiff, ↓reduceIte, vcu, ↓vcd, h1, h4]
 exact ⟨⟨trivial, trivial⟩, m - 1, by omega, k + 1, g6, by omega, by simp, fun _ => hok, rfl, k6.sub (hs.trans s3) hn, w6, free_sub (hs.trans s3) n6⟩
end Go.Proofs.YtafkndnmhhjdhaaGreatDoor
namespace Go.Proofs.YtafkndnmhhjdhaaGreatDoor
open Go Go.Abs Go.RowKit Go.Dial Go.Clos
variable {w0 : World}
theorem acodeB_monoX {P : Program} {b : Base} {n : NR} {c : Code} {a : AFrame} {σ : AHeap} {Q Q' : AQ} (h : ACodeB P b n c a σ Q') (hq : ∀ e a σ, Q' e a σ → Q e a σ) : ACodeB P b n c a σ Q := ACode.mono h hq
set_option maxRecDepth 8000 in
theorem copyX_rows (σ : AHeap) (v : Value) (e : Ex) (hv : ExV σ v e) (hb : ExB e) :
  ACall Tryz.prog w0 23 [v] σ fun r σ' => ∃ g1 g2, r = exV (.slice (some ⟨g1, 0, none⟩) e.ps.length 1) (.slice (some ⟨g2, 0, none⟩) e.cs.length 3) e ∧ Sub σ σ' ∧ σ' g1 = some ⟨texts e.ps, false⟩ ∧ σ' g2 = some ⟨tris e.cs, false⟩ ∧ σ g1 = none ∧ σ g2 = none := by
 obtain ⟨⟨O, E, M⟩, ps, cs⟩ := e
 obtain ⟨v1, v2, rfl, t1, t2⟩ := hv
 obtain ⟨b1, b2, b3⟩ := hb
 dsimp only at t1 t2 b1 b2 b3
 unfold exV
 refine acall_goc mixed Tryz.func23 rfl goodc23 fun pr => ?_
 simp -implicitDefEqProofs (disch := omega) only [Nat.reduceEqDiff, ↓reduceIte, vcu, ↓vcd]
 refine r_boxed fun b τ1 nb s1 e1 => ?_
 replace e1 : τ1 b = some ⟨[.int .i64 O, .int .i64 E, .int .i64 M, v1, v2], false⟩ := e1
 refine r_new ze32 fun h2 τ n2 s2 e2 => ?_
 replace e2 : τ h2 = some ⟨[.int .i64 0, .int .i64 0, .int .i64 0, .slice none 0 0, .slice none 0 0], false⟩ := e2
 replace e1 := s2 _ _ e1
 have s12 := s1.trans s2
 have z2 : σ h2 = none := free_sub s1 n2
 replace t1 := t1.sub s12
 replace t2 := t2.sub s12
 have x0 : lds τ b 0 3 = some [.int .i64 O, .int .i64 E, .int .i64 M] := lds_three (ld_of e1 rfl) (ld_of e1 rfl) (ld_of e1 rfl)
 have x3 : ld τ b (0 + 3) = some v1 := ld_of e1 rfl
 have x4 : ld τ b (0 + 4) = some v2 := ld_of e1 rfl
 simp -implicitDefEqProofs (disch := omega) only [Nat.reduceEqDiff, ↓reduceIte, vcu, ↓vcd]
 refine acodeB_monoX (Q' := fun e a' τ' => e = .normal ∧ a' 2 = .pointer (some ⟨h2, 0, none⟩) ∧ ∃ g1 g2, Sub σ τ' ∧ τ' h2 = some ⟨[.int .i64 O, .int .i64 E, .int .i64 M, .slice (some ⟨g1, 0, none⟩) ps.length 1, .slice (some ⟨g2, 0, none⟩) cs.length 3], false⟩ ∧ τ' g1 = some ⟨texts ps, false⟩ ∧ τ' g2 = some ⟨tris cs, false⟩ ∧ σ g1 = none ∧ σ g2 = none)
  (region_tree mixed (quiets [0, 3, 7] (quiets [1, 4, 8] (.two 2 (.two 5 (.one 6 (.one 9 (quiets [10] (.one 11 .stop)))) 6 (.one 5 (.one 9 (quiets [10] (.one 11 .stop))))) 6 (.one 2 (.one 5 (.one 9 (quiets [10] (.one 11 .stop)))))))) [([1, 4, 8], Sub τ)] (by kernel_rfl) (by kernel_rfl) (fun p hp => by simp only [List.mem_singleton] at hp; subst hp; exact Sub.refl _) ?_) ?_
 ·refine tree_quiets _ _ _ _ sf0 (by kernel_rfl) (by kernel_rfl) ?_
  simp -implicitDefEqProofs (disch := omega) only [Nat.reduceEqDiff, ↓reduceIte, vcu, ↓vcd, pickOps_nil, pickOps_cons, pickO_some, List.getElem?_cons_succ, List.getElem?_cons_zero, Nat.add_zero]
  refine tree_quiets τ _ _ _ sf1 (by kernel_rfl) (by kernel_rfl) ?_
  simp -implicitDefEqProofs (disch := omega) only [Nat.reduceEqDiff, ↓reduceIte, vcu, ↓vcd, pickOps_nil, pickOps_cons, pickO_some, List.getElem?_cons_succ, List.getElem?_cons_zero, x0, x3, x4, co29, Nat.add_zero]
  refine tree_two rfl rfl ?_ ?_
  ·try simp -implicitDefEqProofs (disch := omega) only [Nat.reduceEqDiff, ↓reduceIte, vcu, ↓vcd]
   refine r_lit el24 (out := #[]) (by kernel_rfl) (by kernel_rfl) fun e1 T2 n3 s4 v5 => ?_
   replace v5 : T2 e1 = some ⟨texts [], false⟩ := v5
   simp -implicitDefEqProofs (disch := omega) only [Nat.reduceEqDiff, ↓reduceIte, vcu, ↓vcd]
   have z6 := free_sub (Sub.refl τ) n3
   have f7 := s4 _ _ e2
   have S8 := (Sub.refl τ).trans s4
   refine ⟨keep_of rfl (fun p hp => by simp only [List.mem_singleton] at hp; subst hp; exact .inr S8), ?_⟩
   refine tree_two rfl rfl ?_ ?_
   ·try simp -implicitDefEqProofs (disch := omega) only [Nat.reduceEqDiff, ↓reduceIte, vcu, ↓vcd]
    refine r_pushXV (g := e1) (len := 0) (xs := []) (ys := ps) el24 (by omega) sl24 z9q v5 rfl (by simp -implicitDefEqProofs (disch := omega) only [Nat.reduceEqDiff, ↓reduceIte, vcu, ↓vcd]; exact t1.sub S8) (by omega) fun g9 T10 n11 k12 w13 => ?_
    rw [List.nil_append] at w13
    simp -implicitDefEqProofs (disch := omega) only [Nat.reduceEqDiff, ↓reduceIte, vcu, ↓vcd, Nat.zero_add]
    have z14 := free_sub S8 n11
    have S15 := k12.sub S8 z6
    have f16 := k12.at f7 (ne_of' n3 e2)
    refine ⟨keep_of rfl (fun p hp => by simp only [List.mem_singleton] at hp; subst hp; exact .inr S15), ?_⟩
    refine tree_one rfl ?_
    refine r_lit el30 (out := #[]) (by kernel_rfl) (by kernel_rfl) fun e17 T18 n19 s20 v21 => ?_
    replace v21 : T18 e17 = some ⟨tris [], false⟩ := v21
    simp -implicitDefEqProofs (disch := omega) only [Nat.reduceEqDiff, ↓reduceIte, vcu, ↓vcd]
    have z22 := free_sub S15 n19
    have f23 := s20 _ _ f16
    have f24 := s20 _ _ w13
    have S25 := S15.trans s20
    refine ⟨keep_of rfl (fun p hp => by simp only [List.mem_singleton] at hp; subst hp; exact .inr S25), ?_⟩
    refine tree_one rfl ?_
    refine r_pushCV (g := e17) (len := 0) (xs := []) (ys := cs) el30 (by omega) sl30 z9q v21 rfl (by simp -implicitDefEqProofs (disch := omega) only [Nat.reduceEqDiff, ↓reduceIte, vcu, ↓vcd]; exact t2.sub S25) (by omega) fun g26 T27 n28 k29 w30 => ?_
    rw [List.nil_append] at w30
    simp -implicitDefEqProofs (disch := omega) only [Nat.reduceEqDiff, ↓reduceIte, vcu, ↓vcd, Nat.zero_add]
    have z31 := free_sub S25 n28
    have S32 := k29.sub S25 z22
    have f33 := k29.at f23 (ne_of' n19 f16)
    have f34 := k29.at f24 (ne_of' n19 w13)
    refine ⟨keep_of rfl (fun p hp => by simp only [List.mem_singleton] at hp; subst hp; exact .inr S32), ?_⟩
    refine tree_quiets _ _ _ _ sf0 (by kernel_rfl) (by kernel_rfl) ?_
    simp -implicitDefEqProofs (disch := omega) only [Nat.reduceEqDiff, ↓reduceIte, vcu, ↓vcd, pickOps_nil, pickOps_cons, pickO_some, List.getElem?_cons_succ, List.getElem?_cons_zero]
    rw [r_build]
    refine ⟨(_, #[.int .i64 O, .int .i64 E, .int .i64 M, .slice (some ⟨g9, 0, none⟩) ps.length 1, .slice (some ⟨g26, 0, none⟩) cs.length 3]), ⟨ze32, by simp -implicitDefEqProofs (disch := omega) only [Nat.reduceEqDiff, ↓reduceIte, vcu, ↓vcd]; kernel_rfl⟩, ?_⟩
    simp -implicitDefEqProofs (disch := omega) only [Nat.reduceEqDiff, ↓reduceIte, vcu, ↓vcd]
    refine tree_one rfl ?_
    refine r_sets (g := h2) (i := 0) (C := [.int .i64 0, .int .i64 0, .int .i64 0, .slice none 0 0, .slice none 0 0]) z9q z9co32 z9r z9z f33 z9l fun T35 k36 e37 => ?_
    replace e37 : T35 h2 = some ⟨[.int .i64 O, .int .i64 E, .int .i64 M, .slice (some ⟨g9, 0, none⟩) ps.length 1, .slice (some ⟨g26, 0, none⟩) cs.length 3], false⟩ := e37
    have q39 := k36.at f34 (ne_of n11 f7)
    have q40 := k36.at w30 (ne_of n28 f23)
    have S38 : Sub σ T35 := k36.sub (s12.trans S32) z2
    simp -implicitDefEqProofs (disch := omega) only [Nat.reduceEqDiff, ↓reduceIte, vcu, ↓vcd]
    refine ⟨keep_of rfl (fun p hp => by simp only [List.mem_singleton] at hp; subst hp; exact .inl (by kernel_rfl)), ?_⟩
    refine tree_stop ?_
    exact ⟨by first | trivial | rfl, by first | trivial | rfl | simp -implicitDefEqProofs (disch := omega) only [Nat.reduceEqDiff, ↓reduceIte, vcu, ↓vcd], g9, g26, S38, e37, q39, q40, free_sub s12 z14, free_sub s12 z31⟩
   ·try simp -implicitDefEqProofs (disch := omega) only [Nat.reduceEqDiff, ↓reduceIte, vcu, ↓vcd]
    refine r_lit el30 (out := #[]) (by kernel_rfl) (by kernel_rfl) fun e41 T42 n43 s44 v45 => ?_
    replace v45 : T42 e41 = some ⟨tris [], false⟩ := v45
    simp -implicitDefEqProofs (disch := omega) only [Nat.reduceEqDiff, ↓reduceIte, vcu, ↓vcd]
    have z46 := free_sub S8 n43
    have f47 := s44 _ _ f7
    have f48 := s44 _ _ v5
    have S49 := S8.trans s44
    refine ⟨keep_of rfl (fun p hp => by simp only [List.mem_singleton] at hp; subst hp; exact .inr S49), ?_⟩
    refine tree_one rfl ?_
    refine r_pushXV (g := e1) (len := 0) (xs := []) (ys := ps) el24 (by omega) sl24 z9q f48 rfl (by simp -implicitDefEqProofs (disch := omega) only [Nat.reduceEqDiff, ↓reduceIte, vcu, ↓vcd]; exact t1.sub S49) (by omega) fun g50 T51 n52 k53 w54 => ?_
    rw [List.nil_append] at w54
    simp -implicitDefEqProofs (disch := omega) only [Nat.reduceEqDiff, ↓reduceIte, vcu, ↓vcd, Nat.zero_add]
    have z55 := free_sub S49 n52
    have S56 := k53.sub S49 z6
    have f57 := k53.at f47 (ne_of' n3 e2)
    have f58 := k53.at v45 (ne_of n43 v5)
    refine ⟨keep_of rfl (fun p hp => by simp only [List.mem_singleton] at hp; subst hp; exact .inr S56), ?_⟩
    refine tree_one rfl ?_
    refine r_pushCV (g := e41) (len := 0) (xs := []) (ys := cs) el30 (by omega) sl30 z9q f58 rfl (by simp -implicitDefEqProofs (disch := omega) only [Nat.reduceEqDiff, ↓reduceIte, vcu, ↓vcd]; exact t2.sub S56) (by omega) fun g59 T60 n61 k62 w63 => ?_
    rw [List.nil_append] at w63
    simp -implicitDefEqProofs (disch := omega) only [Nat.reduceEqDiff, ↓reduceIte, vcu, ↓vcd, Nat.zero_add]
    have z64 := free_sub S56 n61
    have S65 := k62.sub S56 z46
    have f66 := k62.at f57 (ne_of' n43 f7)
    have f67 := k62.at w54 (ne_of n52 v45)
    refine ⟨keep_of rfl (fun p hp => by simp only [List.mem_singleton] at hp; subst hp; exact .inr S65), ?_⟩
    refine tree_quiets _ _ _ _ sf0 (by kernel_rfl) (by kernel_rfl) ?_
    simp -implicitDefEqProofs (disch := omega) only [Nat.reduceEqDiff, ↓reduceIte, vcu, ↓vcd, pickOps_nil, pickOps_cons, pickO_some, List.getElem?_cons_succ, List.getElem?_cons_zero]
    rw [r_build]
    refine ⟨(_, #[.int .i64 O, .int .i64 E, .int .i64 M, .slice (some ⟨g50, 0, none⟩) ps.length 1, .slice (some ⟨g59, 0, none⟩) cs.length 3]), ⟨ze32, by simp -implicitDefEqProofs (disch := omega) only [Nat.reduceEqDiff, ↓reduceIte, vcu, ↓vcd]; kernel_rfl⟩, ?_⟩
    simp -implicitDefEqProofs (disch := omega) only [Nat.reduceEqDiff, ↓reduceIte, vcu, ↓vcd]
    refine tree_one rfl ?_
    refine r_sets (g := h2) (i := 0) (C := [.int .i64 0, .int .i64 0, .int .i64 0, .slice none 0 0, .slice none 0 0]) z9q z9co32 z9r z9z f66 z9l fun T68 k69 e70 => ?_
    replace e70 : T68 h2 = some ⟨[.int .i64 O, .int .i64 E, .int .i64 M, .slice (some ⟨g50, 0, none⟩) ps.length 1, .slice (some ⟨g59, 0, none⟩) cs.length 3], false⟩ := e70
    have q72 := k69.at f67 (ne_of n52 f47)
    have q73 := k69.at w63 (ne_of n61 f57)
    have S71 : Sub σ T68 := k69.sub (s12.trans S65) z2
    simp -implicitDefEqProofs (disch := omega) only [Nat.reduceEqDiff, ↓reduceIte, vcu, ↓vcd]
    refine ⟨keep_of rfl (fun p hp => by simp only [List.mem_singleton] at hp; subst hp; exact .inl (by kernel_rfl)), ?_⟩
    refine tree_stop ?_
    exact ⟨by first | trivial | rfl, by first | trivial | rfl | simp -implicitDefEqProofs (disch := omega) only [Nat.reduceEqDiff, ↓reduceIte, vcu, ↓vcd], g50, g59, S71, e70, q72, q73, free_sub s12 z55, free_sub s12 z64⟩
  ·try simp -implicitDefEqProofs (disch := omega) only [Nat.reduceEqDiff, ↓reduceIte, vcu, ↓vcd]
   refine r_lit el30 (out := #[]) (by kernel_rfl) (by kernel_rfl) fun e74 T75 n76 s77 v78 => ?_
   replace v78 : T75 e74 = some ⟨tris [], false⟩ := v78
   simp -implicitDefEqProofs (disch := omega) only [Nat.reduceEqDiff, ↓reduceIte, vcu, ↓vcd]
   have z79 := free_sub (Sub.refl τ) n76
   have f80 := s77 _ _ e2
   have S81 := (Sub.refl τ).trans s77
   refine ⟨keep_of rfl (fun p hp => by simp only [List.mem_singleton] at hp; subst hp; exact .inr S81), ?_⟩
   refine tree_one rfl ?_
   refine r_lit el24 (out := #[]) (by kernel_rfl) (by kernel_rfl) fun e82 T83 n84 s85 v86 => ?_
   replace v86 : T83 e82 = some ⟨texts [], false⟩ := v86
   simp -implicitDefEqProofs (disch := omega) only [Nat.reduceEqDiff, ↓reduceIte, vcu, ↓vcd]
   have z87 := free_sub S81 n84
   have f88 := s85 _ _ f80
   have f89 := s85 _ _ v78
   have S90 := S81.trans s85
   refine ⟨keep_of rfl (fun p hp => by simp only [List.mem_singleton] at hp; subst hp; exact .inr S90), ?_⟩
   refine tree_one rfl ?_
   refine r_pushXV (g := e82) (len := 0) (xs := []) (ys := ps) el24 (by omega) sl24 z9q v86 rfl (by simp -implicitDefEqProofs (disch := omega) only [Nat.reduceEqDiff, ↓reduceIte, vcu, ↓vcd]; exact t1.sub S90) (by omega) fun g91 T92 n93 k94 w95 => ?_
   rw [List.nil_append] at w95
   simp -implicitDefEqProofs (disch := omega) only [Nat.reduceEqDiff, ↓reduceIte, vcu, ↓vcd, Nat.zero_add]
   have z96 := free_sub S90 n93
   have S97 := k94.sub S90 z87
   have f98 := k94.at f88 (ne_of' n84 f80)
   have f99 := k94.at f89 (ne_of' n84 v78)
   refine ⟨keep_of rfl (fun p hp => by simp only [List.mem_singleton] at hp; subst hp; exact .inr S97), ?_⟩
   refine tree_one rfl ?_
   refine r_pushCV (g := e74) (len := 0) (xs := []) (ys := cs) el30 (by omega) sl30 z9q f99 rfl (by simp -implicitDefEqProofs (disch := omega) only [Nat.reduceEqDiff, ↓reduceIte, vcu, ↓vcd]; exact t2.sub S97) (by omega) fun g100 T101 n102 k103 w104 => ?_
   rw [List.nil_append] at w104
   simp -implicitDefEqProofs (disch := omega) only [Nat.reduceEqDiff, ↓reduceIte, vcu, ↓vcd, Nat.zero_add]
   have z105 := free_sub S97 n102
   have S106 := k103.sub S97 z79
   have f107 := k103.at f98 (ne_of' n76 e2)
   have f108 := k103.at w95 (ne_of n93 f89)
   refine ⟨keep_of rfl (fun p hp => by simp only [List.mem_singleton] at hp; subst hp; exact .inr S106), ?_⟩
   refine tree_quiets _ _ _ _ sf0 (by kernel_rfl) (by kernel_rfl) ?_
   simp -implicitDefEqProofs (disch := omega) only [Nat.reduceEqDiff, ↓reduceIte, vcu, ↓vcd, pickOps_nil, pickOps_cons, pickO_some, List.getElem?_cons_succ, List.getElem?_cons_zero]
   rw [r_build]
   refine ⟨(_, #[.int .i64 O, .int .i64 E, .int .i64 M, .slice (some ⟨g91, 0, none⟩) ps.length 1, .slice (some ⟨g100, 0, none⟩) cs.length 3]), ⟨ze32, by simp -implicitDefEqProofs (disch := omega) only [Nat.reduceEqDiff, ↓reduceIte, vcu, ↓vcd]; kernel_rfl⟩, ?_⟩
   simp -implicitDefEqProofs (disch := omega) only [Nat.reduceEqDiff, ↓reduceIte, vcu, ↓vcd]
   refine tree_one rfl ?_
   refine r_sets (g := h2) (i := 0) (C := [.int .i64 0, .int .i64 0, .int .i64 0, .slice none 0 0, .slice none 0 0]) z9q z9co32 z9r z9z f107 z9l fun T109 k110 e111 => ?_
   replace e111 : T109 h2 = some ⟨[.int .i64 O, .int .i64 E, .int .i64 M, .slice (some ⟨g91, 0, none⟩) ps.length 1, .slice (some ⟨g100, 0, none⟩) cs.length 3], false⟩ := e111
   have q113 := k110.at f108 (ne_of n93 f88)
   have q114 := k110.at w104 (ne_of n102 f98)
   have S112 : Sub σ T109 := k110.sub (s12.trans S106) z2
   simp -implicitDefEqProofs (disch := omega) only [Nat.reduceEqDiff, ↓reduceIte, vcu, ↓vcd]
   refine ⟨keep_of rfl (fun p hp => by simp only [List.mem_singleton] at hp; subst hp; exact .inl (by kernel_rfl)), ?_⟩
   refine tree_stop ?_
   exact ⟨by first | trivial | rfl, by first | trivial | rfl | simp -implicitDefEqProofs (disch := omega) only [Nat.reduceEqDiff, ↓reduceIte, vcu, ↓vcd], g91, g100, S112, e111, q113, q114, free_sub s12 z96, free_sub s12 z105⟩
 ·rintro _ a τ' ⟨rfl, q2, g1, g2, S, w0', w1, w2, z1, z3⟩
  have l5 : lds τ' h2 0 5 = some [.int .i64 O, .int .i64 E, .int .i64 M, .slice (some ⟨g1, 0, none⟩) ps.length 1, .slice (some ⟨g2, 0, none⟩) cs.length 3] := by rw [lds_of w0' (by simp)]; rfl
  simp -implicitDefEqProofs (disch := omega) only [Nat.reduceEqDiff, ↓reduceIte, vcu, ↓vcd, q2]
  refine fin_cell Tryz.results23 τ' (Sub.refl _) (v := exV (.slice (some ⟨g1, 0, none⟩) ps.length 1) (.slice (some ⟨g2, 0, none⟩) cs.length 3) ⟨⟨O, E, M⟩, ps, cs⟩) (by simp -implicitDefEqProofs (disch := omega) only [Nat.reduceEqDiff, ↓reduceIte, vcu, ↓vcd, q2, l5, co32]; rfl) ⟨g1, g2, rfl, S, w1, w2, z1, z3⟩
end Go.Proofs.YtafkndnmhhjdhaaGreatDoor
namespace Go.Proofs.YtafkndnmhhjdhaaGreatDoor
open Go Go.Abs Go.RowKit Go.Clos
variable {w0 : World}
set_option maxRecDepth 8000 in
theorem specBusy_at (σ : AHeap) (h o : Nat) (cs : List Cl) (I O : Int) (hv : TrisAt σ h o cs) (hl : cs.length ≤ 1048576) :
  ACall Tryz.prog w0 74 [.slice (some ⟨h, o, none⟩) cs.length 3, .int .i64 I, .int .i64 O] σ fun r σ' => r = .bool (decide (Busy cs I O)) ∧ σ' = σ := by
 refine acall_go mixed Tryz.func74 rfl good74 fun pr => ?_
 simp -implicitDefEqProofs (disch := omega) only [Nat.reduceEqDiff, ↓reduceIte, vcu, ↓vcd]
 refine vc_loop_c mixed (by kernel_rfl) [0, 1, 2] (fun m a τ => ∃ k : Nat, m + k = cs.length ∧ a 7 = .int .i64 k ∧ τ = σ ∧ ∀ c ∈ cs.take k, c.i ≠ I ∧ c.o ≠ O) cs.length ⟨0, by simp, rfl, rfl, by simp⟩ ?_
 rintro m a τ hc ⟨k, hk, h7, rfl, hN⟩
 simp -implicitDefEqProofs (disch := omega) only [Nat.reduceEqDiff, ↓reduceIte, vcu, ↓vcd] at hc
 obtain ⟨h0, h1, h2, -⟩ := hc
 by_cases hlt : k < cs.length
 case neg =>
  obtain rfl : k = cs.length := by omega
  rw [List.take_length] at hN
  rw [decide_eq_false (fun hB : Busy cs I O => by obtain ⟨c, hc, e⟩ := hB; exact e.elim (hN c hc).1 (hN c hc).2)]
  simp -implicitDefEqProofs (disch := omega) only [Nat.reduceEqDiff, ↓reduceIte, vcu, ↓vcd, h0, h1, h2, h7]
  refine fin_one Tryz.results74 ⟨?_, rfl⟩
  simp -implicitDefEqProofs (disch := omega) only [Nat.reduceEqDiff, ↓reduceIte, vcu, ↓vcd]
 obtain ⟨x1, x2, -⟩ := hv k hlt
 have hm := gc_mem hlt
 have ht := take_gc hlt
 have hgk : cs.getD k cl0 = gc cs k := rfl
 rw [hgk] at x1 x2
 generalize gc cs k = c at x1 x2 hm ht
 by_cases c1 : c.i = I
 ·rw [decide_eq_true (show Busy cs I O from ⟨c, hm, .inl c1⟩)]
  simp -implicitDefEqProofs (disch := omega) only [Nat.reduceEqDiff, ↓reduceIte, vcu, ↓vcd, h0, h1, h2, h7, x1, x2, Nat.add_zero]
  refine fin_one Tryz.results74 ⟨?_, rfl⟩
  simp -implicitDefEqProofs (disch := omega) only [Nat.reduceEqDiff, ↓reduceIte, vcu, ↓vcd]
 by_cases c2 : c.o = O
 ·rw [decide_eq_true (show Busy cs I O from ⟨c, hm, .inr c2⟩)]
  simp -implicitDefEqProofs (disch := omega) only [Nat.reduceEqDiff, ↓reduceIte, vcu, ↓vcd, h0, h1, h2, h7, x1, x2, Nat.add_zero]
  refine fin_one Tryz.results74 ⟨?_, rfl⟩
  simp -implicitDefEqProofs (disch := omega) only [Nat.reduceEqDiff, ↓reduceIte, vcu, ↓vcd]
 simp -implicitDefEqProofs (disch := omega) only [Nat.reduceEqDiff, ↓reduceIte, vcu, ↓vcd, h0, h1, h2, h7, x1, x2, Nat.add_zero]
 refine ⟨⟨trivial, trivial, trivial, trivial⟩, m - 1, by omega, k + 1, by omega, by simp, trivial, fun d hd => ?_⟩
 rw [ht] at hd
 rcases List.mem_append.1 hd with hd | hd
 ·exact hN d hd
 ·rw [List.mem_singleton] at hd; subst hd; exact ⟨c1, c2⟩
set_option maxRecDepth 8000 in
theorem specFirst_at (σ : AHeap) (O E M : Int) (g p : Nat) (used : List Int) (hv : IntsAt .i64 σ g p used) (hl : used.length ≤ 1048576) (hM : 0 ≤ M ∧ M ≤ 5) :
  ACall Tryz.prog w0 76 [.agg #[.int .i64 O, .int .i64 E, .int .i64 M], .slice (some ⟨g, p, none⟩) used.length 1] σ fun r σ' => r = .int .i64 (firstN used M.toNat 0) ∧ σ' = σ := by
 refine acall_go mixed Tryz.func76 rfl good76 fun pr => ?_
 simp -implicitDefEqProofs (disch := omega) only [Nat.reduceEqDiff, ↓reduceIte, vcu, ↓vcd]
 refine r_boxed fun b τ nb s1 e1 => ?_
 replace e1 : τ b = some ⟨[.int .i64 O, .int .i64 E, .int .i64 M], false⟩ := e1
 have lM : ld τ b (0 + 2) = some (.int .i64 M) := ld_of e1 rfl
 simp -implicitDefEqProofs (disch := omega) only [Nat.reduceEqDiff, ↓reduceIte, vcu, ↓vcd]
 refine vc_loop_c mixed (by kernel_rfl) [1, 2] (fun m a τ' => ∃ k : Nat, m + k = M.toNat ∧ a 5 = .int .i64 k ∧ τ' = τ ∧ firstN used M.toNat 0 = firstN used m k) M.toNat ⟨0, by simp, rfl, rfl, rfl⟩ ?_
 rintro m a τ2 hc ⟨k, hk, h5, rfl, hf⟩
 simp -implicitDefEqProofs (disch := omega) only [Nat.reduceEqDiff, ↓reduceIte, vcu, ↓vcd] at hc
 obtain ⟨h1, h2, -⟩ := hc
 by_cases hlt : k < M.toNat
 case neg =>
  obtain rfl : m = 0 := by omega
  simp -implicitDefEqProofs (disch := omega) only [Nat.reduceEqDiff, ↓reduceIte, vcu, ↓vcd, h1, h2, h5, lM]
  refine fin_drop Tryz.results76 σ s1 ⟨?_, rfl⟩
  simp -implicitDefEqProofs (disch := omega) only [Nat.reduceEqDiff, ↓reduceIte, vcu, ↓vcd]
  rw [hf]; rfl
 obtain ⟨m2, rfl⟩ : ∃ m2, m = m2 + 1 := ⟨m - 1, by omega⟩
 rw [firstN_step] at hf
 simp -implicitDefEqProofs (disch := omega) only [Nat.reduceEqDiff, ↓reduceIte, vcu, ↓vcd, h1, h2, h5, lM]
 refine (has_at τ2 g p used k (hv.sub s1) hl).mono ?_
 rintro r _ ⟨rfl, rfl⟩
 rename_i τ
 by_cases hu : (k : Int) ∈ used
 ·rw [if_pos hu] at hf
  rw [decide_eq_true hu]
  simp -implicitDefEqProofs (disch := omega) only [Nat.reduceEqDiff, ↓reduceIte, vcu, ↓vcd, opK_some, Bool.not_true, h1, h2, h5]
  exact ⟨⟨trivial, trivial, trivial⟩, m2, by omega, k + 1, by omega, by simp, trivial, hf⟩
 ·rw [if_neg hu] at hf
  rw [decide_eq_false hu]
  simp -implicitDefEqProofs (disch := omega) only [Nat.reduceEqDiff, ↓reduceIte, vcu, ↓vcd, opK_some, Bool.not_false, h1, h2, h5]
  refine fin_drop Tryz.results76 σ s1 ⟨?_, rfl⟩
  simp -implicitDefEqProofs (disch := omega) only [Nat.reduceEqDiff, ↓reduceIte, vcu, ↓vcd]
  rw [hf]
set_option maxRecDepth 8000 in
theorem specUsedI_at (σ : AHeap) (s : Sp) (h o : Nat) (cs : List Cl) (x : Int) (hv : TrisAt σ h o cs) (hl : cs.length ≤ 1048576) (hR : ∀ c ∈ cs, Rg s c) (hS : SV s) :
  ACall Tryz.prog w0 77 [.agg #[.int .i64 s.O, .int .i64 s.E, .int .i64 s.M], .slice (some ⟨h, o, none⟩) cs.length 3, .int .i64 x, .int .i64 0] σ fun r σ' => Sub σ σ' ∧ OwnI σ σ' r (usedI s cs x) := by
 have hL := hS.lines
 have hE := hS.2.1
 have hlen := fun k => (used_length s (cs.take k) x).1
 have hlk : ∀ k, (cs.take k).length ≤ cs.length := fun k => by simp; omega
 refine acall_go mixed Tryz.func77 rfl good77 fun pr => ?_
 simp -implicitDefEqProofs (disch := omega) only [Nat.reduceEqDiff, ↓reduceIte, vcu, ↓vcd]
 refine r_boxed fun b τ nb s1 e1 => ?_
 replace e1 : τ b = some ⟨[.int .i64 s.O, .int .i64 s.E, .int .i64 s.M], false⟩ := e1
 simp -implicitDefEqProofs (disch := omega) only [Nat.reduceEqDiff, ↓reduceIte, vcu, ↓vcd]
 refine r_lit el104 (out := #[]) (by kernel_rfl) (by kernel_rfl) fun e0 τ1 n1 s2 e2 => ?_
 simp -implicitDefEqProofs (disch := omega) only [Nat.reduceEqDiff, ↓reduceIte, vcu, ↓vcd]
 refine vc_loop_c mixed (by kernel_rfl) [1, 2, 3, 4] (fun m a τ' => ∃ (k g : Nat), m + k = cs.length ∧ a 10 = .int .i64 k ∧ a 9 = .slice (some ⟨g, 0, none⟩) (usedI s (cs.take k) x).length 1 ∧ Sub τ τ' ∧ τ' g = some ⟨ints .i64 (usedI s (cs.take k) x), false⟩ ∧ τ g = none) cs.length ⟨0, e0, by simp, rfl, rfl, s2, e2, n1⟩ ?_
 rintro m a τ2 hc ⟨k, g, hk, h10, h9, hs, hg, hn⟩
 simp -implicitDefEqProofs (disch := omega) only [Nat.reduceEqDiff, ↓reduceIte, vcu, ↓vcd] at hc
 obtain ⟨h1, h2, h3, h4, -⟩ := hc
 by_cases hlt : k < cs.length
 case neg =>
  obtain rfl : k = cs.length := by omega
  rw [List.take_length] at h9 hg
  simp -implicitDefEqProofs (disch := omega) only [Nat.reduceEqDiff, ↓reduceIte, vcu, ↓vcd, h1, h2, h3, h4, h9, h10]
  refine fin_one Tryz.results77 ⟨s1.trans hs, .inr ⟨g, ?_, hg, free_sub s1 hn⟩⟩
  simp -implicitDefEqProofs (disch := omega) only [Nat.reduceEqDiff, ↓reduceIte, vcu, ↓vcd, h9]
 obtain ⟨x1, x2, x3⟩ := ((hv.sub s1).sub hs) k hlt
 have hm := hR _ (gc_mem hlt)
 have ht := usedI_take (s := s) (x := x) hlt
 have hl1 := hlen (k + 1)
 have hl0 := hlen k
 have hk1 := hlk k
 have hgk : cs.getD k cl0 = gc cs k := rfl
 rw [hgk] at x1 x2 x3
 generalize gc cs k = c at x1 x2 x3 hm ht
 obtain ⟨⟨a1, a2⟩, ⟨a3, a4⟩, -⟩ := hm
 have lE : ld τ2 b (0 + 1) = some (.int .i64 s.E) := ld_of (hs _ _ e1) rfl
 by_cases ci : c.i / s.E = x
 ·rw [if_pos ci] at ht
  simp -implicitDefEqProofs (disch := omega) only [Nat.reduceEqDiff, ↓reduceIte, vcu, ↓vcd, h1, h2, h3, h4, h10, x1, x2, x3, lE, Nat.add_zero]
  refine r_lit el104 (out := #[.int .i64 c.v]) (by first | kernel_rfl | (simp -implicitDefEqProofs (disch := omega) only [Nat.reduceEqDiff, ↓reduceIte, vcu, ↓vcd]; kernel_rfl)) (by rfl) fun e3 τ3 n3 s3 v3 => ?_
  simp -implicitDefEqProofs (disch := omega) only [Nat.reduceEqDiff, ↓reduceIte, vcu, ↓vcd, h9]
  refine r_pushI (g := g) (e := e3) (o := 0) (k := .i64) (xs := usedI s (cs.take k) x) (ys := [c.v]) (m := 1) (len := (usedI s (cs.take k) x).length) el104 (by omega) sl104 (by simp -implicitDefEqProofs (disch := omega) only [Nat.reduceEqDiff, ↓reduceIte, vcu, ↓vcd, h9]) (s3 _ _ hg) rfl z9q (intsAt_own v3) rfl (by omega) fun g6 τ6 n6 k6 v6 => ?_
  rw [← ht] at v6
  have hle : (usedI s (cs.take k) x).length + 1 = (usedI s (cs.take (k + 1)) x).length := by rw [ht]; simp
  simp -implicitDefEqProofs (disch := omega) only [Nat.reduceEqDiff, ↓reduceIte, vcu, ↓vcd, h1, h2, h3, h4, h10, hle]
  exact ⟨⟨trivial, trivial, trivial, trivial, trivial⟩, m - 1, by omega, k + 1, g6, by omega, by simp, rfl, k6.sub (hs.trans s3) hn, v6, free_sub (hs.trans s3) n6⟩
 ·rw [if_neg ci, List.append_nil] at ht
  simp -implicitDefEqProofs (disch := omega) only [Nat.reduceEqDiff, ↓reduceIte, vcu, ↓vcd, h1, h2, h3, h4, h10, x1, x2, x3, lE, Nat.add_zero]
  exact ⟨⟨trivial, trivial, trivial, trivial, trivial⟩, m - 1, by omega, k + 1, g, by omega, by simp, by rw [ht]; exact h9, hs, by rw [ht]; exact hg, hn⟩
set_option maxRecDepth 8000 in
theorem specUsedO_at (σ : AHeap) (s : Sp) (h o : Nat) (cs : List Cl) (x : Int) (hv : TrisAt σ h o cs) (hl : cs.length ≤ 1048576) (hR : ∀ c ∈ cs, Rg s c) (hS : SV s) :
  ACall Tryz.prog w0 77 [.agg #[.int .i64 s.O, .int .i64 s.E, .int .i64 s.M], .slice (some ⟨h, o, none⟩) cs.length 3, .int .i64 x, .int .i64 1] σ fun r σ' => Sub σ σ' ∧ OwnI σ σ' r (usedO s cs x) := by
 have hL := hS.lines
 have hE := hS.2.1
 have hlen := fun k => (used_length s (cs.take k) x).2
 have hlk : ∀ k, (cs.take k).length ≤ cs.length := fun k => by simp; omega
 refine acall_go mixed Tryz.func77 rfl good77 fun pr => ?_
 simp -implicitDefEqProofs (disch := omega) only [Nat.reduceEqDiff, ↓reduceIte, vcu, ↓vcd]
 refine r_boxed fun b τ nb s1 e1 => ?_
 replace e1 : τ b = some ⟨[.int .i64 s.O, .int .i64 s.E, .int .i64 s.M], false⟩ := e1
 simp -implicitDefEqProofs (disch := omega) only [Nat.reduceEqDiff, ↓reduceIte, vcu, ↓vcd]
 refine r_lit el104 (out := #[]) (by kernel_rfl) (by kernel_rfl) fun e0 τ1 n1 s2 e2 => ?_
 simp -implicitDefEqProofs (disch := omega) only [Nat.reduceEqDiff, ↓reduceIte, vcu, ↓vcd]
 refine vc_loop_c mixed (by kernel_rfl) [1, 2, 3, 4] (fun m a τ' => ∃ (k g : Nat), m + k = cs.length ∧ a 10 = .int .i64 k ∧ a 9 = .slice (some ⟨g, 0, none⟩) (usedO s (cs.take k) x).length 1 ∧ Sub τ τ' ∧ τ' g = some ⟨ints .i64 (usedO s (cs.take k) x), false⟩ ∧ τ g = none) cs.length ⟨0, e0, by simp, rfl, rfl, s2, e2, n1⟩ ?_
 rintro m a τ2 hc ⟨k, g, hk, h10, h9, hs, hg, hn⟩
 simp -implicitDefEqProofs (disch := omega) only [Nat.reduceEqDiff, ↓reduceIte, vcu, ↓vcd] at hc
 obtain ⟨h1, h2, h3, h4, -⟩ := hc
 by_cases hlt : k < cs.length
 case neg =>
  obtain rfl : k = cs.length := by omega
  rw [List.take_length] at h9 hg
  simp -implicitDefEqProofs (disch := omega) only [Nat.reduceEqDiff, ↓reduceIte, vcu, ↓vcd, h1, h2, h3, h4, h9, h10]
  refine fin_one Tryz.results77 ⟨s1.trans hs, .inr ⟨g, ?_, hg, free_sub s1 hn⟩⟩
  simp -implicitDefEqProofs (disch := omega) only [Nat.reduceEqDiff, ↓reduceIte, vcu, ↓vcd, h9]
 obtain ⟨x1, x2, x3⟩ := ((hv.sub s1).sub hs) k hlt
 have hm := hR _ (gc_mem hlt)
 have ht := usedO_take (s := s) (x := x) hlt
 have hl1 := hlen (k + 1)
 have hl0 := hlen k
 have hk1 := hlk k
 have hgk : cs.getD k cl0 = gc cs k := rfl
 rw [hgk] at x1 x2 x3
 generalize gc cs k = c at x1 x2 x3 hm ht
 obtain ⟨⟨a1, a2⟩, ⟨a3, a4⟩, -⟩ := hm
 have lE : ld τ2 b (0 + 1) = some (.int .i64 s.E) := ld_of (hs _ _ e1) rfl
 by_cases ci : c.o / s.E = x
 ·rw [if_pos ci] at ht
  simp -implicitDefEqProofs (disch := omega) only [Nat.reduceEqDiff, ↓reduceIte, vcu, ↓vcd, h1, h2, h3, h4, h10, x1, x2, x3, lE, Nat.add_zero]
  refine r_lit el104 (out := #[.int .i64 c.v]) (by first | kernel_rfl | (simp -implicitDefEqProofs (disch := omega) only [Nat.reduceEqDiff, ↓reduceIte, vcu, ↓vcd]; kernel_rfl)) (by rfl) fun e3 τ3 n3 s3 v3 => ?_
  simp -implicitDefEqProofs (disch := omega) only [Nat.reduceEqDiff, ↓reduceIte, vcu, ↓vcd, h9]
  refine r_pushI (g := g) (e := e3) (o := 0) (k := .i64) (xs := usedO s (cs.take k) x) (ys := [c.v]) (m := 1) (len := (usedO s (cs.take k) x).length) el104 (by omega) sl104 (by simp -implicitDefEqProofs (disch := omega) only [Nat.reduceEqDiff, ↓reduceIte, vcu, ↓vcd, h9]) (s3 _ _ hg) rfl z9q (intsAt_own v3) rfl (by omega) fun g6 τ6 n6 k6 v6 => ?_
  rw [← ht] at v6
  have hle : (usedO s (cs.take k) x).length + 1 = (usedO s (cs.take (k + 1)) x).length := by rw [ht]; simp
  simp -implicitDefEqProofs (disch := omega) only [Nat.reduceEqDiff, ↓reduceIte, vcu, ↓vcd, h1, h2, h3, h4, h10, hle]
  exact ⟨⟨trivial, trivial, trivial, trivial, trivial⟩, m - 1, by omega, k + 1, g6, by omega, by simp, rfl, k6.sub (hs.trans s3) hn, v6, free_sub (hs.trans s3) n6⟩
 ·rw [if_neg ci, List.append_nil] at ht
  simp -implicitDefEqProofs (disch := omega) only [Nat.reduceEqDiff, ↓reduceIte, vcu, ↓vcd, h1, h2, h3, h4, h10, x1, x2, x3, lE, Nat.add_zero]
  exact ⟨⟨trivial, trivial, trivial, trivial, trivial⟩, m - 1, by omega, k + 1, g, by omega, by simp, by rw [ht]; exact h9, hs, by rw [ht]; exact hg, hn⟩
end Go.Proofs.YtafkndnmhhjdhaaGreatDoor
namespace Go.Proofs.YtafkndnmhhjdhaaGreatDoor
open Go Go.Abs Go.RowKit Go.Clos
variable {w0 : World}
theorem acodeB_mono {P : Program} {b : Base} {n : NR} {c : Code} {a : AFrame} {σ : AHeap} {Q Q' : AQ} (h : ACodeB P b n c a σ Q') (hq : ∀ e a σ, Q' e a σ → Q e a σ) : ACodeB P b n c a σ Q := ACode.mono h hq
set_option maxRecDepth 8000 in
theorem specFree_at (σ : AHeap) (s : Sp) (h o : Nat) (cs : List Cl) (I O : Int) (hv : TrisAt σ h o cs) (hl : cs.length ≤ 1048576) :
  ACall Tryz.prog w0 75 [.agg #[.int .i64 s.O, .int .i64 s.E, .int .i64 s.M], .slice (some ⟨h, o, none⟩) cs.length 3, .int .i64 I, .int .i64 O] σ fun r σ' => Sub σ σ' ∧ OwnI σ σ' r (freeV s cs I O) := by
 refine acall_go mixed Tryz.func75 rfl good75 fun pr => ?_
 simp -implicitDefEqProofs (disch := omega) only [Nat.reduceEqDiff, ↓reduceIte, vcu, ↓vcd]
 refine r_boxed fun b τ nb s1 e1 => ?_
 replace e1 : τ b = some ⟨[.int .i64 s.O, .int .i64 s.E, .int .i64 s.M], false⟩ := e1
 simp -implicitDefEqProofs (disch := omega) only [Nat.reduceEqDiff, ↓reduceIte, vcu, ↓vcd]
 refine r_lit el104 (out := #[]) (by kernel_rfl) (by kernel_rfl) fun e0 τ1 n1 s2 e2 => ?_
 have hs1 := s1.trans s2
 have nσ := free_sub s1 n1
 have hve := fun (τ' : AHeap) (hs : Sub σ τ') => specCV_at (w0 := w0) τ' s.O s.E s.M h o cs (hv.sub hs) hl
 have m3 : ∀ τ', Sub τ τ' → lds τ' b 0 3 = some [.int .i64 s.O, .int .i64 s.E, .int .i64 s.M] := fun τ' hs => lds_three (ld_of (hs _ _ e1) rfl) (ld_of (hs _ _ e1) rfl) (ld_of (hs _ _ e1) rfl)
 have mM : ∀ τ', Sub τ τ' → ld τ' b (0 + 2) = some (.int .i64 s.M) := fun τ' hs => ld_of (hs _ _ e1) rfl
 by_cases hC : CV s cs
 case neg =>
  rw [freeV_no fun hh => hC hh.1]
  simp -implicitDefEqProofs (disch := omega) only [Nat.reduceEqDiff, ↓reduceIte, vcu, ↓vcd]
  refine vc_loop_c mixed (by kernel_rfl) [9] (fun m a τ' => a 1 = .slice (some ⟨h, o, none⟩) cs.length 3 ∧ a 4 = .pointer (some ⟨b, 0, none⟩) ∧ a 10 = .int .i64 0 ∧ τ' = τ1) 0 ⟨rfl, rfl, rfl, rfl⟩ ?_
  rintro m a τ2 hc ⟨h1, h4, h10, rfl⟩
  simp -implicitDefEqProofs (disch := omega) only [Nat.reduceEqDiff, ↓reduceIte, vcu, ↓vcd] at hc
  obtain ⟨h9, -⟩ := hc
  have l1 := mM τ2 s2
  have l2 := m3 τ2 s2
  by_cases hM : 0 < s.M
  ·simp -implicitDefEqProofs (disch := omega) only [Nat.reduceEqDiff, ↓reduceIte, vcu, ↓vcd, h1, h4, h9, h10, l1, l2, co29]
   refine (hve τ2 hs1).mono ?_
   rintro r _ ⟨rfl, rfl⟩
   rw [decide_eq_false hC]
   simp -implicitDefEqProofs (disch := omega) only [Nat.reduceEqDiff, ↓reduceIte, vcu, ↓vcd, opK_some, h9]
   refine fin_one Tryz.results75 ⟨hs1, .inr ⟨e0, ?_, e2, nσ⟩⟩
   simp -implicitDefEqProofs (disch := omega) only [Nat.reduceEqDiff, ↓reduceIte, vcu, ↓vcd, h9]
   rfl
  ·simp -implicitDefEqProofs (disch := omega) only [Nat.reduceEqDiff, ↓reduceIte, vcu, ↓vcd, h1, h4, h9, h10, l1, l2, co29]
   refine fin_one Tryz.results75 ⟨hs1, .inr ⟨e0, ?_, e2, nσ⟩⟩
   simp -implicitDefEqProofs (disch := omega) only [Nat.reduceEqDiff, ↓reduceIte, vcu, ↓vcd, h9]
   rfl
 have hS := hC.1
 obtain ⟨-, -, hM1, hM2⟩ := hS
 have hl12 := hC.len
 have hle : ∀ k, (freeL s cs I O k).length ≤ k := fun k => by
  have := List.length_filter_le (fun v => decide (Free s cs I O v)) (rng k)
  rw [rng_length] at this; exact this
 simp -implicitDefEqProofs (disch := omega) only [Nat.reduceEqDiff, ↓reduceIte, vcu, ↓vcd]
 refine vc_loop_c mixed (by kernel_rfl) [1, 2, 3, 4] (fun m a τ' => ∃ (k g : Nat), m + k = s.M.toNat ∧ a 10 = .int .i64 k ∧ a 9 = .slice (some ⟨g, 0, none⟩) (freeL s cs I O k).length 1 ∧ Sub τ τ' ∧ τ' g = some ⟨ints .i64 (freeL s cs I O k), false⟩ ∧ τ g = none) s.M.toNat ⟨0, e0, by simp, rfl, rfl, s2, e2, n1⟩ ?_
 rintro m a τ2 hc ⟨k, g, hk, h10, h9, hs, hg, hn⟩
 simp -implicitDefEqProofs (disch := omega) only [Nat.reduceEqDiff, ↓reduceIte, vcu, ↓vcd] at hc
 obtain ⟨h1, h2, h3, h4, -⟩ := hc
 have l1 := mM τ2 hs
 have l2 := m3 τ2 hs
 by_cases hlt : k < s.M.toNat
 case neg =>
  obtain rfl : k = s.M.toNat := by omega
  simp -implicitDefEqProofs (disch := omega) only [Nat.reduceEqDiff, ↓reduceIte, vcu, ↓vcd, h1, h2, h3, h4, h9, h10, l1, l2]
  refine fin_one Tryz.results75 ⟨s1.trans hs, .inr ⟨g, ?_, hg, free_sub s1 hn⟩⟩
  simp -implicitDefEqProofs (disch := omega) only [Nat.reduceEqDiff, ↓reduceIte, vcu, ↓vcd, h9]
  rfl
 simp -implicitDefEqProofs (disch := omega) only [Nat.reduceEqDiff, ↓reduceIte, vcu, ↓vcd, h1, h2, h3, h4, h9, h10, l1, l2, co29]
 refine (hve τ2 (s1.trans hs)).mono ?_
 rintro r _ ⟨rfl, rfl⟩
 rename_i τ2
 rw [decide_eq_true hC]
 have hlk := hle k
 have hsucc := freeL_succ s cs I O k
 have hve2 := fun (τ' : AHeap) (g9 : Nat) (hh : τ' g9 = some ⟨tris (cs ++ [⟨I, O, (k : Int)⟩]), false⟩) => specCV_at (w0 := w0) τ' s.O s.E s.M g9 0 (cs ++ [⟨I, O, (k : Int)⟩]) (trisAt_own hh) (by simp; omega)
 have hll : (cs ++ [(⟨I, O, (k : Int)⟩ : Cl)]).length = cs.length + 1 := by simp
 rw [hll] at hve2
 simp -implicitDefEqProofs (disch := omega) only [Nat.reduceEqDiff, ↓reduceIte, vcu, ↓vcd, opK_some, h1, h2, h3, h4, h9, h10, co29]
 refine acodeB_mono (Q' := fun e a' τ8 => e = .normal ∧ (a' 1 = .slice (some ⟨h, o, none⟩) cs.length 3 ∧ a' 2 = .int .i64 I ∧ a' 3 = .int .i64 O ∧ a' 4 = .pointer (some ⟨b, 0, none⟩) ∧ a' 9 = .slice (some ⟨g, 0, none⟩) (freeL s cs I O k).length 1 ∧ a' 10 = .int .i64 (k : Int) ∧ a' 33 = .bool (decide (Free s cs I O k))) ∧ Sub τ2 τ8)
  (region_tree mixed (quiets [0, 2, 4, 5, 6, 7] (.two 1 (.two 3 (.one 8 (.one 9 (.one 10 .stop))) 8 (.one 3 (.one 9 (.one 10 .stop)))) 8 (.one 1 (.one 3 (.one 9 (.one 10 .stop)))))) [([0, 2, 4, 5, 6, 7], Sub τ2)] (by kernel_rfl) (by kernel_rfl) (fun p hp => by simp only [List.mem_singleton] at hp; subst hp; exact Sub.refl _) ?_) ?_
 ·refine tree_quiets τ2 _ _ _ sf1 (by kernel_rfl) (by kernel_rfl) ?_
  simp -implicitDefEqProofs (disch := omega) only [Nat.reduceEqDiff, ↓reduceIte, vcu, ↓vcd, pickOps_nil, pickOps_cons, pickO_some, List.getElem?_cons_succ, List.getElem?_cons_zero, h1, h2, h3, h4, h9, h10, l2, co29]
  rw [r_build]
  refine ⟨(_, #[.int .i64 I, .int .i64 O, .int .i64 (k : Int)]), ⟨ze76, by simp -implicitDefEqProofs (disch := omega) only [Nat.reduceEqDiff, ↓reduceIte, vcu, ↓vcd, h2, h3, h10]; kernel_rfl⟩, ?_⟩
  simp -implicitDefEqProofs (disch := omega) only [Nat.reduceEqDiff, ↓reduceIte, vcu, ↓vcd, pickOps_nil, pickOps_cons, pickO_some, List.getElem?_cons_succ, List.getElem?_cons_zero]
  refine tree_two rfl rfl ?_ ?_
  ·refine r_lit el30 (out := #[]) (by kernel_rfl) (by kernel_rfl) fun ea τ3 n3 s3 v3 => ?_
   simp -implicitDefEqProofs (disch := omega) only [Nat.reduceEqDiff, ↓reduceIte, vcu, ↓vcd]
   refine ⟨keep_of rfl (fun p hp => by simp only [List.mem_singleton] at hp; subst hp; exact .inr s3), ?_⟩
   refine tree_two rfl rfl ?_ ?_
   ·refine r_pushC (g := ea) (e := h) (o := o) (cs := []) (ds := cs) (m := cs.length) (len := 0) el30 (by omega) sl30 z9q v3 rfl z9q (hv.sub (s1.trans (hs.trans s3))) rfl (by omega) fun gb τ4 n4 k4 v4 => ?_
    rw [List.nil_append] at v4
    have s4 : Sub τ2 τ4 := k4.sub s3 n3
    simp -implicitDefEqProofs (disch := omega) only [Nat.reduceEqDiff, ↓reduceIte, vcu, ↓vcd]
    refine ⟨keep_of rfl (fun p hp => by simp only [List.mem_singleton] at hp; subst hp; exact .inr s4), tree_one rfl ?_⟩
    refine r_lit el30 (out := #[.int .i64 I, .int .i64 O, .int .i64 (k : Int)]) (by first | kernel_rfl | (simp -implicitDefEqProofs (disch := omega) only [Nat.reduceEqDiff, ↓reduceIte, vcu, ↓vcd]; kernel_rfl)) (by rfl) fun eb τ5 n5 s5 v5 => ?_
    replace v5 : τ5 eb = some ⟨tris [⟨I, O, (k : Int)⟩], false⟩ := v5
    simp -implicitDefEqProofs (disch := omega) only [Nat.reduceEqDiff, ↓reduceIte, vcu, ↓vcd]
    have v4' := s5 _ _ v4
    have s5' := s4.trans s5
    refine ⟨keep_of rfl (fun p hp => by simp only [List.mem_singleton] at hp; subst hp; exact .inr s5'), ?_⟩
    refine tree_one rfl ?_
    refine r_pushC (g := gb) (e := eb) (o := 0) (cs := cs) (ds := [⟨I, O, (k : Int)⟩]) (m := 1) (len := cs.length) el30 (by omega) sl30 (by simp -implicitDefEqProofs (disch := omega) only [Nat.reduceEqDiff, ↓reduceIte, vcu, ↓vcd, Nat.zero_add]) v4' rfl z9q (trisAt_own v5) rfl (by omega) fun gc9 τ9 n9 k9 v9 => ?_
    have s9 : Sub τ2 τ9 := fun z ob e => k9.at (s5' _ _ e) (ne_of' (free_sub s3 n4) e)
    simp -implicitDefEqProofs (disch := omega) only [Nat.reduceEqDiff, ↓reduceIte, vcu, ↓vcd]
    refine ⟨keep_of rfl (fun p hp => by simp only [List.mem_singleton] at hp; subst hp; exact .inr s9), tree_one rfl ?_⟩
    simp -implicitDefEqProofs (disch := omega) only [Nat.reduceEqDiff, ↓reduceIte, vcu, ↓vcd]
    refine (hve2 τ9 gc9 v9).mono ?_
    rintro r τ10 ⟨rfl, e10⟩
    subst e10
    simp -implicitDefEqProofs (disch := omega) only [Nat.reduceEqDiff, ↓reduceIte, vcu, ↓vcd, opK_some]
    refine ⟨keep_of rfl (fun p hp => by simp only [List.mem_singleton] at hp; subst hp; exact .inr s9), tree_stop ?_⟩
    refine ⟨trivial, ⟨?_, ?_, ?_, ?_, ?_, ?_, ?_⟩, s9⟩
    ·simp -implicitDefEqProofs (disch := omega) only [Nat.reduceEqDiff, ↓reduceIte, vcu, ↓vcd, h1]
    ·simp -implicitDefEqProofs (disch := omega) only [Nat.reduceEqDiff, ↓reduceIte, vcu, ↓vcd, h2]
    ·simp -implicitDefEqProofs (disch := omega) only [Nat.reduceEqDiff, ↓reduceIte, vcu, ↓vcd, h3]
    ·simp -implicitDefEqProofs (disch := omega) only [Nat.reduceEqDiff, ↓reduceIte, vcu, ↓vcd, h4]
    ·simp -implicitDefEqProofs (disch := omega) only [Nat.reduceEqDiff, ↓reduceIte, vcu, ↓vcd, h9]
    ·simp -implicitDefEqProofs (disch := omega) only [Nat.reduceEqDiff, ↓reduceIte, vcu, ↓vcd, h10]
    ·simp -implicitDefEqProofs (disch := omega) only [Nat.reduceEqDiff, ↓reduceIte, vcu, ↓vcd]
     rfl
   ·refine r_lit el30 (out := #[.int .i64 I, .int .i64 O, .int .i64 (k : Int)]) (by first | kernel_rfl | (simp -implicitDefEqProofs (disch := omega) only [Nat.reduceEqDiff, ↓reduceIte, vcu, ↓vcd]; kernel_rfl)) (by rfl) fun eb τ4 n4 s4 v4 => ?_
    replace v4 : τ4 eb = some ⟨tris [⟨I, O, (k : Int)⟩], false⟩ := v4
    simp -implicitDefEqProofs (disch := omega) only [Nat.reduceEqDiff, ↓reduceIte, vcu, ↓vcd]
    have s4' := s3.trans s4
    refine ⟨keep_of rfl (fun p hp => by simp only [List.mem_singleton] at hp; subst hp; exact .inr s4'), tree_one rfl ?_⟩
    refine r_pushC (g := ea) (e := h) (o := o) (cs := []) (ds := cs) (m := cs.length) (len := 0) el30 (by omega) sl30 z9q (s4 _ _ v3) rfl z9q (hv.sub (s1.trans (hs.trans s4'))) rfl (by omega) fun gb τ5 n5 k5 v5 => ?_
    rw [List.nil_append] at v5
    have s5' : Sub τ2 τ5 := k5.sub s4' n3
    have v4' := k5.at v4 (ne_of n4 v3)
    simp -implicitDefEqProofs (disch := omega) only [Nat.reduceEqDiff, ↓reduceIte, vcu, ↓vcd]
    refine ⟨keep_of rfl (fun p hp => by simp only [List.mem_singleton] at hp; subst hp; exact .inr s5'), ?_⟩
    refine tree_one rfl ?_
    refine r_pushC (g := gb) (e := eb) (o := 0) (cs := cs) (ds := [⟨I, O, (k : Int)⟩]) (m := 1) (len := cs.length) el30 (by omega) sl30 (by simp -implicitDefEqProofs (disch := omega) only [Nat.reduceEqDiff, ↓reduceIte, vcu, ↓vcd, Nat.zero_add]) v5 rfl z9q (trisAt_own v4') rfl (by omega) fun gc9 τ9 n9 k9 v9 => ?_
    have s9 : Sub τ2 τ9 := fun z ob e => k9.at (s5' _ _ e) (ne_of' (free_sub s4' n5) e)
    simp -implicitDefEqProofs (disch := omega) only [Nat.reduceEqDiff, ↓reduceIte, vcu, ↓vcd]
    refine ⟨keep_of rfl (fun p hp => by simp only [List.mem_singleton] at hp; subst hp; exact .inr s9), tree_one rfl ?_⟩
    simp -implicitDefEqProofs (disch := omega) only [Nat.reduceEqDiff, ↓reduceIte, vcu, ↓vcd]
    refine (hve2 τ9 gc9 v9).mono ?_
    rintro r τ10 ⟨rfl, e10⟩
    subst e10
    simp -implicitDefEqProofs (disch := omega) only [Nat.reduceEqDiff, ↓reduceIte, vcu, ↓vcd, opK_some]
    refine ⟨keep_of rfl (fun p hp => by simp only [List.mem_singleton] at hp; subst hp; exact .inr s9), tree_stop ?_⟩
    refine ⟨trivial, ⟨?_, ?_, ?_, ?_, ?_, ?_, ?_⟩, s9⟩
    ·simp -implicitDefEqProofs (disch := omega) only [Nat.reduceEqDiff, ↓reduceIte, vcu, ↓vcd, h1]
    ·simp -implicitDefEqProofs (disch := omega) only [Nat.reduceEqDiff, ↓reduceIte, vcu, ↓vcd, h2]
    ·simp -implicitDefEqProofs (disch := omega) only [Nat.reduceEqDiff, ↓reduceIte, vcu, ↓vcd, h3]
    ·simp -implicitDefEqProofs (disch := omega) only [Nat.reduceEqDiff, ↓reduceIte, vcu, ↓vcd, h4]
    ·simp -implicitDefEqProofs (disch := omega) only [Nat.reduceEqDiff, ↓reduceIte, vcu, ↓vcd, h9]
    ·simp -implicitDefEqProofs (disch := omega) only [Nat.reduceEqDiff, ↓reduceIte, vcu, ↓vcd, h10]
    ·simp -implicitDefEqProofs (disch := omega) only [Nat.reduceEqDiff, ↓reduceIte, vcu, ↓vcd]
     rfl
  ·refine r_lit el30 (out := #[.int .i64 I, .int .i64 O, .int .i64 (k : Int)]) (by first | kernel_rfl | (simp -implicitDefEqProofs (disch := omega) only [Nat.reduceEqDiff, ↓reduceIte, vcu, ↓vcd]; kernel_rfl)) (by rfl) fun eb τ3 n3 s3 v3 => ?_
   replace v3 : τ3 eb = some ⟨tris [⟨I, O, (k : Int)⟩], false⟩ := v3
   simp -implicitDefEqProofs (disch := omega) only [Nat.reduceEqDiff, ↓reduceIte, vcu, ↓vcd]
   refine ⟨keep_of rfl (fun p hp => by simp only [List.mem_singleton] at hp; subst hp; exact .inr s3), tree_one rfl ?_⟩
   refine r_lit el30 (out := #[]) (by kernel_rfl) (by kernel_rfl) fun ea τ4 n4 s4 v4 => ?_
   have s4' := s3.trans s4
   simp -implicitDefEqProofs (disch := omega) only [Nat.reduceEqDiff, ↓reduceIte, vcu, ↓vcd]
   refine ⟨keep_of rfl (fun p hp => by simp only [List.mem_singleton] at hp; subst hp; exact .inr s4'), tree_one rfl ?_⟩
   refine r_pushC (g := ea) (e := h) (o := o) (cs := []) (ds := cs) (m := cs.length) (len := 0) el30 (by omega) sl30 z9q v4 rfl z9q (hv.sub (s1.trans (hs.trans s4'))) rfl (by omega) fun gb τ5 n5 k5 v5 => ?_
   rw [List.nil_append] at v5
   have s5' : Sub τ2 τ5 := k5.sub s4' (free_sub s3 n4)
   have v3' := k5.at (s4 _ _ v3) (ne_of' n4 v3)
   simp -implicitDefEqProofs (disch := omega) only [Nat.reduceEqDiff, ↓reduceIte, vcu, ↓vcd]
   refine ⟨keep_of rfl (fun p hp => by simp only [List.mem_singleton] at hp; subst hp; exact .inr s5'), ?_⟩
   refine tree_one rfl ?_
   refine r_pushC (g := gb) (e := eb) (o := 0) (cs := cs) (ds := [⟨I, O, (k : Int)⟩]) (m := 1) (len := cs.length) el30 (by omega) sl30 (by simp -implicitDefEqProofs (disch := omega) only [Nat.reduceEqDiff, ↓reduceIte, vcu, ↓vcd, Nat.zero_add]) v5 rfl z9q (trisAt_own v3') rfl (by omega) fun gc9 τ9 n9 k9 v9 => ?_
   have s9 : Sub τ2 τ9 := fun z ob e => k9.at (s5' _ _ e) (ne_of' (free_sub s4' n5) e)
   simp -implicitDefEqProofs (disch := omega) only [Nat.reduceEqDiff, ↓reduceIte, vcu, ↓vcd]
   refine ⟨keep_of rfl (fun p hp => by simp only [List.mem_singleton] at hp; subst hp; exact .inr s9), tree_one rfl ?_⟩
   simp -implicitDefEqProofs (disch := omega) only [Nat.reduceEqDiff, ↓reduceIte, vcu, ↓vcd]
   refine (hve2 τ9 gc9 v9).mono ?_
   rintro r τ10 ⟨rfl, e10⟩
   subst e10
   simp -implicitDefEqProofs (disch := omega) only [Nat.reduceEqDiff, ↓reduceIte, vcu, ↓vcd, opK_some]
   refine ⟨keep_of rfl (fun p hp => by simp only [List.mem_singleton] at hp; subst hp; exact .inr s9), tree_stop ?_⟩
   refine ⟨trivial, ⟨?_, ?_, ?_, ?_, ?_, ?_, ?_⟩, s9⟩
   ·simp -implicitDefEqProofs (disch := omega) only [Nat.reduceEqDiff, ↓reduceIte, vcu, ↓vcd, h1]
   ·simp -implicitDefEqProofs (disch := omega) only [Nat.reduceEqDiff, ↓reduceIte, vcu, ↓vcd, h2]
   ·simp -implicitDefEqProofs (disch := omega) only [Nat.reduceEqDiff, ↓reduceIte, vcu, ↓vcd, h3]
   ·simp -implicitDefEqProofs (disch := omega) only [Nat.reduceEqDiff, ↓reduceIte, vcu, ↓vcd, h4]
   ·simp -implicitDefEqProofs (disch := omega) only [Nat.reduceEqDiff, ↓reduceIte, vcu, ↓vcd, h9]
   ·simp -implicitDefEqProofs (disch := omega) only [Nat.reduceEqDiff, ↓reduceIte, vcu, ↓vcd, h10]
   ·simp -implicitDefEqProofs (disch := omega) only [Nat.reduceEqDiff, ↓reduceIte, vcu, ↓vcd]
    rfl
 rintro _ a' τ8 ⟨rfl, ⟨f1, f2, f3, f4, f9, f10, f33⟩, s8⟩
 by_cases hF : Free s cs I O k
 ·rw [decide_eq_true hF] at f33
  rw [if_pos hF] at hsucc
  have hg8 := s8 _ _ hg
  simp -implicitDefEqProofs (disch := omega) only [Nat.reduceEqDiff, ↓reduceIte, vcu, ↓vcd, f1, f2, f3, f4, f9, f10, f33]
  refine r_lit el104 (out := #[.int .i64 (k : Int)]) (by first | kernel_rfl | (simp -implicitDefEqProofs (disch := omega) only [Nat.reduceEqDiff, ↓reduceIte, vcu, ↓vcd, f10]; kernel_rfl)) (by rfl) fun e3 τ9 n9 s9 v9 => ?_
  refine r_pushI (g := g) (e := e3) (o := 0) (k := .i64) (xs := freeL s cs I O k) (ys := [(k : Int)]) (m := 1) (len := (freeL s cs I O k).length) el104 (by omega) sl104 (by simp -implicitDefEqProofs (disch := omega) only [Nat.reduceEqDiff, ↓reduceIte, vcu, ↓vcd, f9]) (s9 _ _ hg8) rfl z9q (intsAt_own v9) rfl (by omega) fun g6 τ6 n6 k6 v6 => ?_
  rw [← hsucc] at v6
  have hle2 : (freeL s cs I O k).length + 1 = (freeL s cs I O (k + 1)).length := by rw [hsucc]; simp
  have hs9 := (hs.trans s8).trans s9
  simp -implicitDefEqProofs (disch := omega) only [Nat.reduceEqDiff, ↓reduceIte, vcu, ↓vcd, f1, f2, f3, f4, f10, hle2]
  exact ⟨⟨trivial, trivial, trivial, trivial, trivial⟩, m - 1, by omega, k + 1, g6, by omega, by simp, rfl, k6.sub hs9 hn, v6, free_sub hs9 n6⟩
 ·rw [decide_eq_false hF] at f33
  rw [if_neg hF, List.append_nil] at hsucc
  simp -implicitDefEqProofs (disch := omega) only [Nat.reduceEqDiff, ↓reduceIte, vcu, ↓vcd, f1, f2, f3, f4, f9, f10, f33]
  exact ⟨⟨trivial, trivial, trivial, trivial, trivial⟩, m - 1, by omega, k + 1, g, by omega, by simp, by rw [hsucc], hs.trans s8, by rw [hsucc]; exact s8 _ _ hg, hn⟩
end Go.Proofs.YtafkndnmhhjdhaaGreatDoor
namespace Go.Proofs.YtafkndnmhhjdhaaGreatDoor
open Go Go.Abs Go.RowKit Go.Clos
variable {w0 : World}
def mvOk (s : Sp) (cs : List Cl) (i o : Int) : Prop := (CV s cs ∧ Enough s) ∧ Lines s i o ∧ ¬ Busy cs i o
instance (s : Sp) (cs : List Cl) (i o : Int) : Decidable (mvOk s cs i o) := by unfold mvOk; infer_instance
def mvL (s : Sp) (cs : List Cl) (i o : Int) : List Cl := if CV s cs ∧ Enough s then if mvOk s cs i o then moveL s cs i o else cs else []
theorem mvL_no {s : Sp} {cs : List Cl} {i o : Int} (h : ¬ (CV s cs ∧ Enough s)) : mvL s cs i o = [] := by unfold mvL; rw [if_neg h]
theorem mvL_same {s : Sp} {cs : List Cl} {i o : Int} (h : CV s cs ∧ Enough s) (h2 : ¬ mvOk s cs i o) : mvL s cs i o = cs := by unfold mvL; rw [if_pos h, if_neg h2]
theorem mvL_ok {s : Sp} {cs : List Cl} {i o : Int} (h2 : mvOk s cs i o) : mvL s cs i o = moveL s cs i o := by unfold mvL; rw [if_pos h2.1, if_pos h2]
theorem ownI_lenC {β σ : AHeap} {v : Value} {xs : List Int} (h : OwnI β σ v xs) : alenV Tryz.prog 104 v = some (.int .i64 (xs.length : Int)) := by
 rcases h with ⟨rfl, rfl⟩ | ⟨g, rfl, -, -⟩
 ·exact alenV_slice Tryz.underlying104
 ·exact alenV_slice Tryz.underlying104
theorem rowI_of {β σ : AHeap} {v : Value} {xs : List Int} (h : OwnI β σ v xs) (h0 : 0 < xs.length) : ∃ g, v = .slice (some ⟨g, 0, none⟩) xs.length 1 ∧ σ g = some ⟨ints .i64 xs, false⟩ ∧ β g = none := by
 rcases h with ⟨_, rfl⟩ | ⟨g, e1, e2, e3⟩
 ·simp at h0
 ·exact ⟨g, e1, e2, e3⟩
theorem all_le {s : Sp} {cs : List Cl} {a b B : Int} {ch : List Nat} {sd : Bool} {x : Int} (h : Inv s cs a b B ch sd x) : ch.length ≤ cs.length := by
 have := sub_len (xs := ch) (ys := List.range cs.length) h.nd fun y hy => List.mem_range.2 (h.lt y hy)
 simpa using this
set_option maxRecDepth 8000 in
set_option maxHeartbeats 1600000 in
set_option maxRecDepth 8000 in
theorem specMove_at (σ : AHeap) (s : Sp) (h o : Nat) (cs : List Cl) (I O : Int) (hv : TrisAt σ h o cs) (hl : cs.length ≤ 1048576) :
  ACall Tryz.prog w0 49 [.agg #[.int .i64 s.O, .int .i64 s.E, .int .i64 s.M], .slice (some ⟨h, o, none⟩) cs.length 3, .int .i64 I, .int .i64 O] σ fun r σ' => ∃ v, r = .tuple #[v, .bool (decide (mvOk s cs I O))] ∧ Sub σ σ' ∧ OwnC σ σ' v (mvL s cs I O) := by
 refine acall_go mixed Tryz.func49 rfl good49 fun pr => ?_
 simp -implicitDefEqProofs (disch := omega) only [Nat.reduceEqDiff, ↓reduceIte, vcu, ↓vcd]
 refine r_boxed fun b τ nb s1 e1 => ?_
 replace e1 : τ b = some ⟨[.int .i64 s.O, .int .i64 s.E, .int .i64 s.M], false⟩ := e1
 have m3 : ∀ τ', Sub τ τ' → lds τ' b 0 3 = some [.int .i64 s.O, .int .i64 s.E, .int .i64 s.M] := fun τ' hs => lds_three (ld_of (hs _ _ e1) rfl) (ld_of (hs _ _ e1) rfl) (ld_of (hs _ _ e1) rfl)
 have mE : ∀ τ', Sub τ τ' → ld τ' b (0 + 1) = some (.int .i64 s.E) := fun τ' hs => ld_of (hs _ _ e1) rfl
 have l3 := m3 τ (Sub.refl _)
 simp -implicitDefEqProofs (disch := omega) only [Nat.reduceEqDiff, ↓reduceIte, vcu, ↓vcd, l3, co29]
 refine (specCV_at τ s.O s.E s.M h o cs (hv.sub s1) hl).mono ?_
 rintro r _ ⟨rfl, rfl⟩
 rename_i τ
 by_cases hC : CV s cs
 case neg =>
  rw [decide_eq_false hC, mvL_no fun hh => hC hh.1, decide_eq_false fun hh : mvOk s cs I O => hC hh.1.1]
  simp -implicitDefEqProofs (disch := omega) only [Nat.reduceEqDiff, ↓reduceIte, vcu, ↓vcd, opK_some, Bool.not_false]
  refine r_lit el30 (out := #[]) (by kernel_rfl) (by kernel_rfl) fun ea τ3 n3 s3 v3 => ?_
  simp -implicitDefEqProofs (disch := omega) only [Nat.reduceEqDiff, ↓reduceIte, vcu, ↓vcd]
  refine fin_two Tryz.results49 ⟨.slice (some ⟨ea, 0, none⟩) 0 3, ?_, s1.trans s3, .inr ⟨ea, rfl, v3, free_sub s1 n3⟩⟩
  simp -implicitDefEqProofs (disch := omega) only [Nat.reduceEqDiff, ↓reduceIte, vcu, ↓vcd]
 rw [decide_eq_true hC]
 simp -implicitDefEqProofs (disch := omega) only [Nat.reduceEqDiff, ↓reduceIte, vcu, ↓vcd, opK_some, Bool.not_true, l3, co29]
 refine (specEnough_at τ s.O s.E s.M).mono ?_
 rintro r _ ⟨rfl, rfl⟩
 rename_i τ
 by_cases hE : Enough s
 case neg =>
  rw [decide_eq_false hE, mvL_no fun hh => hE hh.2, decide_eq_false fun hh : mvOk s cs I O => hE hh.1.2]
  simp -implicitDefEqProofs (disch := omega) only [Nat.reduceEqDiff, ↓reduceIte, vcu, ↓vcd, opK_some, Bool.not_false]
  refine r_lit el30 (out := #[]) (by kernel_rfl) (by kernel_rfl) fun ea τ3 n3 s3 v3 => ?_
  simp -implicitDefEqProofs (disch := omega) only [Nat.reduceEqDiff, ↓reduceIte, vcu, ↓vcd]
  refine fin_two Tryz.results49 ⟨.slice (some ⟨ea, 0, none⟩) 0 3, ?_, s1.trans s3, .inr ⟨ea, rfl, v3, free_sub s1 n3⟩⟩
  simp -implicitDefEqProofs (disch := omega) only [Nat.reduceEqDiff, ↓reduceIte, vcu, ↓vcd]
 rw [decide_eq_true hE]
 have hS := hC.1
 have hLn := hS.lines
 have hEE := hS.2.1
 have hMM := hS.2.2
 have hl12 := hC.len
 simp -implicitDefEqProofs (disch := omega) only [Nat.reduceEqDiff, ↓reduceIte, vcu, ↓vcd, opK_some, Bool.not_true]
 refine r_lit el30 (out := #[]) (by kernel_rfl) (by kernel_rfl) fun ea τ3 n3 s3 v3 => ?_
 simp -implicitDefEqProofs (disch := omega) only [Nat.reduceEqDiff, ↓reduceIte, vcu, ↓vcd]
 refine r_pushC (g := ea) (e := h) (o := o) (cs := []) (ds := cs) (m := cs.length) (len := 0) el30 (by omega) sl30 z9q v3 rfl z9q (hv.sub (s1.trans s3)) rfl (by omega) fun gb τ4 n4 k4 v4 => ?_
 rw [List.nil_append] at v4
 have hs4 : Sub τ τ4 := k4.sub s3 n3
 have nτb : τ gb = none := free_sub s3 n4
 have nσb : σ gb = none := free_sub s1 nτb
 have l4 := m3 τ4 hs4
 clear v3 n3 s3 k4 n4
 have hso := fun (hh : ¬ mvOk s cs I O) => (⟨mvL_same ⟨hC, hE⟩ hh, decide_eq_false hh⟩ : mvL s cs I O = cs ∧ decide (mvOk s cs I O) = false)
 simp -implicitDefEqProofs (disch := omega) only [Nat.reduceEqDiff, ↓reduceIte, vcu, ↓vcd, l4, co29, Nat.zero_add]
 refine (specLines_at τ4 s.O s.E s.M hS).mono ?_
 rintro r _ ⟨rfl, rfl⟩
 rename_i τ4
 simp -implicitDefEqProofs (disch := omega) only [Nat.reduceEqDiff, ↓reduceIte, vcu, ↓vcd, opK_some]
 refine (in_calls τ4 I 0 (s.O * s.E - 1)).mono ?_
 rintro r _ ⟨rfl, rfl⟩
 rename_i τ4
 by_cases hI : 0 ≤ I ∧ I ≤ s.O * s.E - 1
 case neg =>
  obtain ⟨q1, q2⟩ := hso fun hh => hI hh.2.1.1
  rw [decide_eq_false hI, q1, q2]
  simp -implicitDefEqProofs (disch := omega) only [Nat.reduceEqDiff, ↓reduceIte, vcu, ↓vcd, opK_some, Bool.not_false]
  refine fin_two Tryz.results49 ⟨.slice (some ⟨gb, 0, none⟩) cs.length 3, ?_, s1.trans hs4, .inr ⟨gb, rfl, v4, nσb⟩⟩
  simp -implicitDefEqProofs (disch := omega) only [Nat.reduceEqDiff, ↓reduceIte, vcu, ↓vcd]
 rw [decide_eq_true hI]
 simp -implicitDefEqProofs (disch := omega) only [Nat.reduceEqDiff, ↓reduceIte, vcu, ↓vcd, opK_some, Bool.not_true, l4, co29]
 refine (specLines_at τ4 s.O s.E s.M hS).mono ?_
 rintro r _ ⟨rfl, rfl⟩
 rename_i τ4
 simp -implicitDefEqProofs (disch := omega) only [Nat.reduceEqDiff, ↓reduceIte, vcu, ↓vcd, opK_some]
 refine (in_calls τ4 O 0 (s.O * s.E - 1)).mono ?_
 rintro r _ ⟨rfl, rfl⟩
 rename_i τ4
 by_cases hO : 0 ≤ O ∧ O ≤ s.O * s.E - 1
 case neg =>
  obtain ⟨q1, q2⟩ := hso fun hh => hO hh.2.1.2
  rw [decide_eq_false hO, q1, q2]
  simp -implicitDefEqProofs (disch := omega) only [Nat.reduceEqDiff, ↓reduceIte, vcu, ↓vcd, opK_some, Bool.not_false]
  refine fin_two Tryz.results49 ⟨.slice (some ⟨gb, 0, none⟩) cs.length 3, ?_, s1.trans hs4, .inr ⟨gb, rfl, v4, nσb⟩⟩
  simp -implicitDefEqProofs (disch := omega) only [Nat.reduceEqDiff, ↓reduceIte, vcu, ↓vcd]
 rw [decide_eq_true hO]
 simp -implicitDefEqProofs (disch := omega) only [Nat.reduceEqDiff, ↓reduceIte, vcu, ↓vcd, opK_some, Bool.not_true]
 refine (specBusy_at τ4 h o cs I O (hv.sub (s1.trans hs4)) hl).mono ?_
 rintro r _ ⟨rfl, rfl⟩
 rename_i τ4
 by_cases hB : Busy cs I O
 ·obtain ⟨q1, q2⟩ := hso fun hh => hh.2.2 hB
  rw [decide_eq_true hB, q1, q2]
  simp -implicitDefEqProofs (disch := omega) only [Nat.reduceEqDiff, ↓reduceIte, vcu, ↓vcd, opK_some]
  refine fin_two Tryz.results49 ⟨.slice (some ⟨gb, 0, none⟩) cs.length 3, ?_, s1.trans hs4, .inr ⟨gb, rfl, v4, nσb⟩⟩
  simp -implicitDefEqProofs (disch := omega) only [Nat.reduceEqDiff, ↓reduceIte, vcu, ↓vcd]
 have hok : mvOk s cs I O := ⟨⟨hC, hE⟩, ⟨hI, hO⟩, hB⟩
 have hLi : Lines s I O := ⟨hI, hO⟩
 rw [decide_eq_false hB, mvL_ok hok, decide_eq_true hok]
 clear hso
 simp -implicitDefEqProofs (disch := omega) only [Nat.reduceEqDiff, ↓reduceIte, vcu, ↓vcd, opK_some, l4, co29]
 refine (specFree_at τ4 s h o cs I O (hv.sub (s1.trans hs4)) hl).mono ?_
 rintro vf τ5 ⟨s5, wf⟩
 have hs5 := hs4.trans s5
 have hlf := ownI_lenC wf
 have v5 := s5 _ _ v4
 cases hf : freeV s cs I O with
 | cons v0 vs =>
  have hml : moveL s cs I O = cs ++ [⟨I, O, v0⟩] := by unfold moveL; rw [hf]
  rw [hf] at wf hlf
  obtain ⟨gf, rfl, wf1, -⟩ := rowI_of wf (by simp)
  have lx := intsAt_own wf1 0 (by simp)
  have hg0 : (v0 :: vs).getD 0 0 = v0 := rfl
  rw [hg0] at lx
  have hpos : (0 : Int) < ((v0 :: vs).length : Int) := by simp
  have hpos' : 0 < (v0 :: vs).length := by simp
  rw [hml]
  generalize (v0 :: vs).length = lf at hlf hpos hpos'
  simp -implicitDefEqProofs (disch := omega) only [Nat.reduceEqDiff, ↓reduceIte, vcu, ↓vcd, opK_some, hlf, lx, Int.toNat_zero, Nat.mul_one]
  rw [r_build]
  refine ⟨(_, #[.int .i64 I, .int .i64 O, .int .i64 v0]), ⟨ze76, by simp -implicitDefEqProofs (disch := omega) only [Nat.reduceEqDiff, ↓reduceIte, vcu, ↓vcd]; kernel_rfl⟩, ?_⟩
  simp -implicitDefEqProofs (disch := omega) only [Nat.reduceEqDiff, ↓reduceIte, vcu, ↓vcd]
  refine r_lit el30 (out := #[.int .i64 I, .int .i64 O, .int .i64 v0]) (by first | kernel_rfl | (simp -implicitDefEqProofs (disch := omega) only [Nat.reduceEqDiff, ↓reduceIte, vcu, ↓vcd]; kernel_rfl)) (by rfl) fun eb τ6 n6 s6 v6 => ?_
  replace v6 : τ6 eb = some ⟨tris [⟨I, O, v0⟩], false⟩ := v6
  refine r_pushC (g := gb) (e := eb) (o := 0) (cs := cs) (ds := [⟨I, O, v0⟩]) (m := 1) (len := cs.length) el30 (by omega) sl30 z9q (s6 _ _ v5) rfl z9q (trisAt_own v6) rfl (by omega) fun gc9 τ9 n9 k9 v9 => ?_
  have s9 : Sub τ τ9 := k9.sub (hs5.trans s6) nτb
  simp -implicitDefEqProofs (disch := omega) only [Nat.reduceEqDiff, ↓reduceIte, vcu, ↓vcd]
  refine fin_two Tryz.results49 ⟨.slice (some ⟨gc9, 0, none⟩) (cs.length + 1) 3, ?_, s1.trans s9, .inr ⟨gc9, by simp, v9, free_sub (s1.trans (hs5.trans s6)) n9⟩⟩
  simp -implicitDefEqProofs (disch := omega) only [Nat.reduceEqDiff, ↓reduceIte, vcu, ↓vcd]
 | nil =>
  have hwa := wayA_ok hE hC hLi hB
  have hwb := wayB_ok hE hC hLi hB
  have hne := way_ne hE hC hLi hB hf
  have hfr := way_free hE hC hLi hB
  have hml : moveL s cs I O = flip (wayA s cs I) (wayB s cs O) (chain s cs (wayA s cs I) (wayB s cs O) (O / s.E)) cs ++ [⟨I, O, wayA s cs I⟩] := by unfold moveL; rw [hf]
  have hch := chain_ok hE hC hLi hB hf
  have hA0 : firstN (usedI s cs (I / s.E)) s.M.toNat 0 = wayA s cs I := rfl
  have hB0 : firstN (usedO s cs (O / s.E)) s.M.toNat 0 = wayB s cs O := rfl
  have hst := inv_start hC hne hfr
  rw [hml]
  rw [hf] at hlf
  have hR := hC.2.1
  have hlI := (used_length s cs (I / s.E)).1
  have hlO := (used_length s cs (O / s.E)).2
  clear hml wf hf hok hLi hB
  have hCC : go s cs (wayA s cs I) (wayB s cs O) cs.length [] true (O / s.E) = chain s cs (wayA s cs I) (wayB s cs O) (O / s.E) := rfl
  generalize chain s cs (wayA s cs I) (wayB s cs O) (O / s.E) = C at *
  generalize wayA s cs I = A at *
  generalize wayB s cs O = B at *
  have l5 := m3 τ5 hs5
  have lE5 := mE τ5 hs5
  simp -implicitDefEqProofs (disch := omega) only [Nat.reduceEqDiff, ↓reduceIte, vcu, ↓vcd, opK_some, hlf, List.length_nil, Int.natCast_zero]
  refine region_tree mixed (quiets [0, 1, 2, 3, 4, 5, 6] (.one 7 (.one 8 (quiets [9] .stop)))) [([0, 1, 2, 3, 4, 5, 6], Sub τ5)] (by kernel_rfl) (by kernel_rfl) (fun p hp => by simp only [List.mem_singleton] at hp; subst hp; exact Sub.refl _) ?_
  refine tree_quiets τ5 _ _ _ sf1 (by kernel_rfl) (by kernel_rfl) ?_
  simp -implicitDefEqProofs (disch := omega) only [Nat.reduceEqDiff, ↓reduceIte, vcu, ↓vcd, pickOps_nil, pickOps_cons, pickO_some, List.getElem?_cons_succ, List.getElem?_cons_zero, l5, lE5, co29]
  refine tree_one rfl ?_
  simp -implicitDefEqProofs (disch := omega) only [Nat.reduceEqDiff, ↓reduceIte, vcu, ↓vcd]
  refine (specUsedI_at τ5 s h o cs (I / s.E) (hv.sub (s1.trans hs5)) hl hR hS).mono ?_
  rintro vu τ6 ⟨s6, wu⟩
  simp -implicitDefEqProofs (disch := omega) only [Nat.reduceEqDiff, ↓reduceIte, vcu, ↓vcd, opK_some]
  refine ⟨keep_of rfl (fun p hp => by simp only [List.mem_singleton] at hp; subst hp; exact .inr s6), tree_one rfl ?_⟩
  simp -implicitDefEqProofs (disch := omega) only [Nat.reduceEqDiff, ↓reduceIte, vcu, ↓vcd]
  refine (ACall.ints_quiet (pre := [_]) (post := []) (by kernel_rfl) wu.ints fun σ1 g p _ hg => specFirst_at σ1 s.O s.E s.M g p _ hg (by omega) (by omega)).mono ?_
  rintro r τ7 ⟨rfl, e7⟩
  subst e7
  rw [hA0]
  simp -implicitDefEqProofs (disch := omega) only [Nat.reduceEqDiff, ↓reduceIte, vcu, ↓vcd, opK_some]
  refine ⟨keep_of rfl (fun p hp => by simp only [List.mem_singleton] at hp; subst hp; exact .inr s6), ?_⟩
  refine tree_quiets (fun _ => none) _ _ _ (fun _ _ _ _ => fun x ob e => by cases e) (by kernel_rfl) (by kernel_rfl) ?_
  simp -implicitDefEqProofs (disch := omega) only [Nat.reduceEqDiff, ↓reduceIte, vcu, ↓vcd, pickOps_nil, pickOps_cons, pickO_some, List.getElem?_cons_succ, List.getElem?_cons_zero]
  refine tree_stop ?_
  have hs6 := hs5.trans s6
  have l6 := m3 _ hs6
  have lE6 := mE _ hs6
  have v6 := s6 _ _ v5
  clear wu
  simp -implicitDefEqProofs (disch := omega) only [Nat.reduceEqDiff, ↓reduceIte, vcu, ↓vcd]
  refine region_tree mixed (quiets [0, 1, 2, 3, 4, 5, 6] (.one 7 (.one 8 (quiets [9] .stop)))) [([0, 1, 2, 3, 4, 5, 6], Sub τ7)] (by kernel_rfl) (by kernel_rfl) (fun p hp => by simp only [List.mem_singleton] at hp; subst hp; exact Sub.refl _) ?_
  refine tree_quiets τ7 _ _ _ sf1 (by kernel_rfl) (by kernel_rfl) ?_
  simp -implicitDefEqProofs (disch := omega) only [Nat.reduceEqDiff, ↓reduceIte, vcu, ↓vcd, pickOps_nil, pickOps_cons, pickO_some, List.getElem?_cons_succ, List.getElem?_cons_zero, l6, lE6, co29]
  refine tree_one rfl ?_
  simp -implicitDefEqProofs (disch := omega) only [Nat.reduceEqDiff, ↓reduceIte, vcu, ↓vcd]
  refine (specUsedO_at τ7 s h o cs (O / s.E) (hv.sub (s1.trans hs6)) hl hR hS).mono ?_
  rintro vu τ8 ⟨s7, wu⟩
  simp -implicitDefEqProofs (disch := omega) only [Nat.reduceEqDiff, ↓reduceIte, vcu, ↓vcd, opK_some]
  refine ⟨keep_of rfl (fun p hp => by simp only [List.mem_singleton] at hp; subst hp; exact .inr s7), tree_one rfl ?_⟩
  simp -implicitDefEqProofs (disch := omega) only [Nat.reduceEqDiff, ↓reduceIte, vcu, ↓vcd]
  refine (ACall.ints_quiet (pre := [_]) (post := []) (by kernel_rfl) wu.ints fun σ1 g p _ hg => specFirst_at σ1 s.O s.E s.M g p _ hg (by omega) (by omega)).mono ?_
  rintro r τ9 ⟨rfl, e8⟩
  subst e8
  rw [hB0]
  simp -implicitDefEqProofs (disch := omega) only [Nat.reduceEqDiff, ↓reduceIte, vcu, ↓vcd, opK_some]
  refine ⟨keep_of rfl (fun p hp => by simp only [List.mem_singleton] at hp; subst hp; exact .inr s7), ?_⟩
  refine tree_quiets (fun _ => none) _ _ _ (fun _ _ _ _ => fun x ob e => by cases e) (by kernel_rfl) (by kernel_rfl) ?_
  simp -implicitDefEqProofs (disch := omega) only [Nat.reduceEqDiff, ↓reduceIte, vcu, ↓vcd, pickOps_nil, pickOps_cons, pickO_some, List.getElem?_cons_succ, List.getElem?_cons_zero]
  refine tree_stop ?_
  have hs9 := hs6.trans s7
  have v9 := s7 _ _ v6
  clear wu l5 lE5 l6 lE6 v6 v5 v4 l4 s5 s6 s7 hs6 hs5 hs4 hlI hlO hlf
  simp -implicitDefEqProofs (disch := omega) only [Nat.reduceEqDiff, ↓reduceIte, vcu, ↓vcd]
  refine r_lit el104 (out := #[]) (by kernel_rfl) (by kernel_rfl) fun gc0 τ10 n10 s10 v10 => ?_
  have hs10 := hs9.trans s10
  have w10 := s10 _ _ v9
  have lE10 := mE _ hs10
  simp -implicitDefEqProofs (disch := omega) only [Nat.reduceEqDiff, ↓reduceIte, vcu, ↓vcd, lE10]
  refine vc_loop_c mixed (by kernel_rfl) [2, 3, 4, 10, 12, 13] (fun m a τ' => ∃ (ch : List Nat) (sd : Bool) (x : Int) (gl : Nat), a 14 = .slice (some ⟨gl, 0, none⟩) ch.length 1 ∧ τ' gl = some ⟨ints .i64 (chI ch), false⟩ ∧ τ9 gl = none ∧ a 15 = .int .i64 (if sd = true then 1 else 0) ∧ a 16 = .int .i64 x ∧ a 17 = .int .i64 (wantOf A B sd) ∧ Sub τ9 τ' ∧ Inv s cs A B (O / s.E) ch sd x ∧ cs.length ≤ ch.length + m ∧ go s cs A B m ch sd x = C) cs.length ⟨[], true, O / s.E, gc0, rfl, v10, n10, rfl, rfl, rfl, s10, hst, by simp, hCC⟩ ?_
  clear hCC hst v10 n10 w10 lE10 s10 hs10
  rintro m a τ11 hc ⟨ch, sd, x, gl, h14, vl, nl, h15, h16, h17, hs11, hinv, hlen, hgo⟩
  simp -implicitDefEqProofs (disch := omega) only [Nat.reduceEqDiff, ↓reduceIte, vcu, ↓vcd] at hc
  obtain ⟨h2, h3, h4, h10, h12, h13, -⟩ := hc
  have wb := hs11 _ _ v9
  have lE := mE _ (hs9.trans hs11)
  simp -implicitDefEqProofs (disch := omega) only [Nat.reduceEqDiff, ↓reduceIte, vcu, ↓vcd, h2, h3, h4, h10, h12, h13, h14, h15, h16, h17]
  refine vc_loop_c mixed (by kernel_rfl) [2, 3, 4, 10, 12, 13, 14, 15, 16, 17] (fun m a τ' => ∃ k : Nat, m + k = cs.length ∧ a 19 = .int .i64 k ∧ a 18 = .int .i64 (nI (nxt s cs ch sd x (wantOf A B sd) k)) ∧ τ' = τ11) cs.length ⟨0, by simp, rfl, rfl, rfl⟩ ?_
  rintro m2 a2 τ12 hc2 ⟨k, hk, h19, h18, e12⟩
  subst e12
  simp -implicitDefEqProofs (disch := omega) only [Nat.reduceEqDiff, ↓reduceIte, vcu, ↓vcd, h2, h3, h4, h10, h12, h13, h14, h15, h16, h17] at hc2
  obtain ⟨g2, g3, g4, g10, g12, g13, g14, g15, g16, g17, -⟩ := hc2
  by_cases hlt : k < cs.length
  ·have hgk : cs.getD k cl0 = gc cs k := rfl
   obtain ⟨x1, x2, x3⟩ := trisAt_own wb k hlt
   rw [hgk] at x1 x2 x3
   have hm := hR _ (gc_mem hlt)
   have hnx := nxt_succ s cs ch sd x (wantOf A B sd) k
   have hh := has_at (w0 := w0) τ12 gl 0 (chI ch) k (intsAt_own vl) (by rw [chI_length]; have := all_le hinv; omega)
   rw [chI_length] at hh
   generalize gc cs k = c at x1 x2 x3 hm hnx
   obtain ⟨⟨a1, a2⟩, ⟨a3, a4⟩, -⟩ := hm
   cases sd with
   | true =>
    have w1 : wantOf A B true = A := rfl
    rw [w1] at g17 h18 hnx
    have e15 : (if (true : Bool) = true then (1 : Int) else 0) = 1 := rfl
    rw [e15] at g15
    by_cases c1 : c.o / s.E = x
    ·by_cases c2 : c.v = A
     ·simp -implicitDefEqProofs (disch := omega) only [Nat.reduceEqDiff, ↓reduceIte, vcu, ↓vcd, g2, g3, g4, g10, g12, g13, g14, g15, g16, g17, h18, h19, x1, x2, x3, lE, Int.toNat_natCast, Nat.add_zero]
      refine hh.mono ?_
      rintro r τ13 ⟨rfl, e13⟩
      subst e13
      by_cases c3 : k ∈ ch
      ·rw [decide_eq_true (mem_chI.2 c3)]
       rw [if_neg fun hh => hh.2 c3] at hnx
       simp -implicitDefEqProofs (disch := omega) only [Nat.reduceEqDiff, ↓reduceIte, vcu, ↓vcd, opK_some, Bool.not_true, g2, g3, g4, g10, g12, g13, g14, g15, g16, g17, h18, h19]
       exact ⟨⟨(by first | trivial | rfl | exact Eq.symm (by assumption)), (by first | trivial | rfl | exact Eq.symm (by assumption)), (by first | trivial | rfl | exact Eq.symm (by assumption)), (by first | trivial | rfl | exact Eq.symm (by assumption)), (by first | trivial | rfl | exact Eq.symm (by assumption)), (by first | trivial | rfl | exact Eq.symm (by assumption)), (by first | trivial | rfl | exact Eq.symm (by assumption)), (by first | trivial | rfl | exact Eq.symm (by assumption)), (by first | trivial | rfl | exact Eq.symm (by assumption)), (by first | trivial | rfl | exact Eq.symm (by assumption)), (by first | trivial | rfl | exact Eq.symm (by assumption))⟩, m2 - 1, by omega, k + 1, by omega, by simp, by rw [w1, hnx], (by first | trivial | rfl | exact Eq.symm (by assumption))⟩
      ·rw [decide_eq_false (fun hm => c3 (mem_chI.1 hm))]
       rw [if_pos ⟨⟨c1, c2⟩, c3⟩] at hnx
       simp -implicitDefEqProofs (disch := omega) only [Nat.reduceEqDiff, ↓reduceIte, vcu, ↓vcd, opK_some, Bool.not_false, g2, g3, g4, g10, g12, g13, g14, g15, g16, g17, h18, h19]
       exact ⟨⟨(by first | trivial | rfl | exact Eq.symm (by assumption)), (by first | trivial | rfl | exact Eq.symm (by assumption)), (by first | trivial | rfl | exact Eq.symm (by assumption)), (by first | trivial | rfl | exact Eq.symm (by assumption)), (by first | trivial | rfl | exact Eq.symm (by assumption)), (by first | trivial | rfl | exact Eq.symm (by assumption)), (by first | trivial | rfl | exact Eq.symm (by assumption)), (by first | trivial | rfl | exact Eq.symm (by assumption)), (by first | trivial | rfl | exact Eq.symm (by assumption)), (by first | trivial | rfl | exact Eq.symm (by assumption)), (by first | trivial | rfl | exact Eq.symm (by assumption))⟩, m2 - 1, by omega, k + 1, by omega, by simp, by rw [w1, hnx], (by first | trivial | rfl | exact Eq.symm (by assumption))⟩
     ·rw [if_neg fun hh => c2 hh.1.2] at hnx
      simp -implicitDefEqProofs (disch := omega) only [Nat.reduceEqDiff, ↓reduceIte, vcu, ↓vcd, g2, g3, g4, g10, g12, g13, g14, g15, g16, g17, h18, h19, x1, x2, x3, lE, Int.toNat_natCast, Nat.add_zero]
      exact ⟨⟨(by first | trivial | rfl | exact Eq.symm (by assumption)), (by first | trivial | rfl | exact Eq.symm (by assumption)), (by first | trivial | rfl | exact Eq.symm (by assumption)), (by first | trivial | rfl | exact Eq.symm (by assumption)), (by first | trivial | rfl | exact Eq.symm (by assumption)), (by first | trivial | rfl | exact Eq.symm (by assumption)), (by first | trivial | rfl | exact Eq.symm (by assumption)), (by first | trivial | rfl | exact Eq.symm (by assumption)), (by first | trivial | rfl | exact Eq.symm (by assumption)), (by first | trivial | rfl | exact Eq.symm (by assumption)), (by first | trivial | rfl | exact Eq.symm (by assumption))⟩, m2 - 1, by omega, k + 1, by omega, by simp, by rw [w1, hnx], (by first | trivial | rfl | exact Eq.symm (by assumption))⟩
    ·rw [if_neg fun hh => c1 hh.1.1] at hnx
     simp -implicitDefEqProofs (disch := omega) only [Nat.reduceEqDiff, ↓reduceIte, vcu, ↓vcd, g2, g3, g4, g10, g12, g13, g14, g15, g16, g17, h18, h19, x1, x2, x3, lE, Int.toNat_natCast, Nat.add_zero]
     exact ⟨⟨(by first | trivial | rfl | exact Eq.symm (by assumption)), (by first | trivial | rfl | exact Eq.symm (by assumption)), (by first | trivial | rfl | exact Eq.symm (by assumption)), (by first | trivial | rfl | exact Eq.symm (by assumption)), (by first | trivial | rfl | exact Eq.symm (by assumption)), (by first | trivial | rfl | exact Eq.symm (by assumption)), (by first | trivial | rfl | exact Eq.symm (by assumption)), (by first | trivial | rfl | exact Eq.symm (by assumption)), (by first | trivial | rfl | exact Eq.symm (by assumption)), (by first | trivial | rfl | exact Eq.symm (by assumption)), (by first | trivial | rfl | exact Eq.symm (by assumption))⟩, m2 - 1, by omega, k + 1, by omega, by simp, by rw [w1, hnx], (by first | trivial | rfl | exact Eq.symm (by assumption))⟩
   | false =>
    have w1 : wantOf A B false = B := rfl
    rw [w1] at g17 h18 hnx
    have e15 : (if (false : Bool) = true then (1 : Int) else 0) = 0 := rfl
    rw [e15] at g15
    by_cases c1 : c.i / s.E = x
    ·by_cases c2 : c.v = B
     ·simp -implicitDefEqProofs (disch := omega) only [Nat.reduceEqDiff, ↓reduceIte, vcu, ↓vcd, g2, g3, g4, g10, g12, g13, g14, g15, g16, g17, h18, h19, x1, x2, x3, lE, Int.toNat_natCast, Nat.add_zero]
      refine hh.mono ?_
      rintro r τ13 ⟨rfl, e13⟩
      subst e13
      by_cases c3 : k ∈ ch
      ·rw [decide_eq_true (mem_chI.2 c3)]
       rw [if_neg fun hh => hh.2 c3] at hnx
       simp -implicitDefEqProofs (disch := omega) only [Nat.reduceEqDiff, ↓reduceIte, vcu, ↓vcd, opK_some, Bool.not_true, g2, g3, g4, g10, g12, g13, g14, g15, g16, g17, h18, h19]
       exact ⟨⟨(by first | trivial | rfl | exact Eq.symm (by assumption)), (by first | trivial | rfl | exact Eq.symm (by assumption)), (by first | trivial | rfl | exact Eq.symm (by assumption)), (by first | trivial | rfl | exact Eq.symm (by assumption)), (by first | trivial | rfl | exact Eq.symm (by assumption)), (by first | trivial | rfl | exact Eq.symm (by assumption)), (by first | trivial | rfl | exact Eq.symm (by assumption)), (by first | trivial | rfl | exact Eq.symm (by assumption)), (by first | trivial | rfl | exact Eq.symm (by assumption)), (by first | trivial | rfl | exact Eq.symm (by assumption)), (by first | trivial | rfl | exact Eq.symm (by assumption))⟩, m2 - 1, by omega, k + 1, by omega, by simp, by rw [w1, hnx], (by first | trivial | rfl | exact Eq.symm (by assumption))⟩
      ·rw [decide_eq_false (fun hm => c3 (mem_chI.1 hm))]
       rw [if_pos ⟨⟨c1, c2⟩, c3⟩] at hnx
       simp -implicitDefEqProofs (disch := omega) only [Nat.reduceEqDiff, ↓reduceIte, vcu, ↓vcd, opK_some, Bool.not_false, g2, g3, g4, g10, g12, g13, g14, g15, g16, g17, h18, h19]
       exact ⟨⟨(by first | trivial | rfl | exact Eq.symm (by assumption)), (by first | trivial | rfl | exact Eq.symm (by assumption)), (by first | trivial | rfl | exact Eq.symm (by assumption)), (by first | trivial | rfl | exact Eq.symm (by assumption)), (by first | trivial | rfl | exact Eq.symm (by assumption)), (by first | trivial | rfl | exact Eq.symm (by assumption)), (by first | trivial | rfl | exact Eq.symm (by assumption)), (by first | trivial | rfl | exact Eq.symm (by assumption)), (by first | trivial | rfl | exact Eq.symm (by assumption)), (by first | trivial | rfl | exact Eq.symm (by assumption)), (by first | trivial | rfl | exact Eq.symm (by assumption))⟩, m2 - 1, by omega, k + 1, by omega, by simp, by rw [w1, hnx], (by first | trivial | rfl | exact Eq.symm (by assumption))⟩
     ·rw [if_neg fun hh => c2 hh.1.2] at hnx
      simp -implicitDefEqProofs (disch := omega) only [Nat.reduceEqDiff, ↓reduceIte, vcu, ↓vcd, g2, g3, g4, g10, g12, g13, g14, g15, g16, g17, h18, h19, x1, x2, x3, lE, Int.toNat_natCast, Nat.add_zero]
      exact ⟨⟨(by first | trivial | rfl | exact Eq.symm (by assumption)), (by first | trivial | rfl | exact Eq.symm (by assumption)), (by first | trivial | rfl | exact Eq.symm (by assumption)), (by first | trivial | rfl | exact Eq.symm (by assumption)), (by first | trivial | rfl | exact Eq.symm (by assumption)), (by first | trivial | rfl | exact Eq.symm (by assumption)), (by first | trivial | rfl | exact Eq.symm (by assumption)), (by first | trivial | rfl | exact Eq.symm (by assumption)), (by first | trivial | rfl | exact Eq.symm (by assumption)), (by first | trivial | rfl | exact Eq.symm (by assumption)), (by first | trivial | rfl | exact Eq.symm (by assumption))⟩, m2 - 1, by omega, k + 1, by omega, by simp, by rw [w1, hnx], (by first | trivial | rfl | exact Eq.symm (by assumption))⟩
    ·rw [if_neg fun hh => c1 hh.1.1] at hnx
     simp -implicitDefEqProofs (disch := omega) only [Nat.reduceEqDiff, ↓reduceIte, vcu, ↓vcd, g2, g3, g4, g10, g12, g13, g14, g15, g16, g17, h18, h19, x1, x2, x3, lE, Int.toNat_natCast, Nat.add_zero]
     exact ⟨⟨(by first | trivial | rfl | exact Eq.symm (by assumption)), (by first | trivial | rfl | exact Eq.symm (by assumption)), (by first | trivial | rfl | exact Eq.symm (by assumption)), (by first | trivial | rfl | exact Eq.symm (by assumption)), (by first | trivial | rfl | exact Eq.symm (by assumption)), (by first | trivial | rfl | exact Eq.symm (by assumption)), (by first | trivial | rfl | exact Eq.symm (by assumption)), (by first | trivial | rfl | exact Eq.symm (by assumption)), (by first | trivial | rfl | exact Eq.symm (by assumption)), (by first | trivial | rfl | exact Eq.symm (by assumption)), (by first | trivial | rfl | exact Eq.symm (by assumption))⟩, m2 - 1, by omega, k + 1, by omega, by simp, by rw [w1, hnx], (by first | trivial | rfl | exact Eq.symm (by assumption))⟩
  obtain rfl : k = cs.length := by omega
  cases hn : nxt s cs ch sd x (wantOf A B sd) cs.length with
  | none =>
   rw [hn] at h18
   have e18 : nI none = -1 := rfl
   rw [e18] at h18
   rw [go_none hn] at hgo
   subst hgo
   simp -implicitDefEqProofs (disch := omega) only [Nat.reduceEqDiff, ↓reduceIte, vcu, ↓vcd, g2, g3, g4, g10, g12, g13, g14, g15, g16, g17, h18, h19]
   have hne2 : gl ≠ gb := ne_of nl v9
   have hAB : ∀ k, k ∈ ch → 0 ≤ A + B - (gc cs k).v ∧ A + B - (gc cs k).v ≤ 10 ∧ 0 ≤ (gc cs k).v := fun k hk => by
    have := hch.ab k hk
    have := hwa.1
    have := hwb.1
    omega
   have hchl := all_le hinv
   refine vc_loop_c mixed (by kernel_rfl) [2, 3, 10, 12, 13, 14] (fun m a τ' => ∃ j : Nat, m + j = ch.length ∧ a 21 = .int .i64 j ∧ Kept gb τ12 τ' ∧ τ' gb = some ⟨tris (flip A B (ch.take j) cs), false⟩) ch.length ⟨0, by simp, rfl, Kept.refl _ _, by simpa [flip_nil] using wb⟩ ?_
   rintro m3 a3 τ13 hc3 ⟨j, hj, h21, hK, hgb⟩
   simp -implicitDefEqProofs (disch := omega) only [Nat.reduceEqDiff, ↓reduceIte, vcu, ↓vcd, g2, g3, g4, g10, g12, g13, g14] at hc3
   obtain ⟨q2, q3, q10, q12, q13, q14, -⟩ := hc3
   by_cases hjl : j < ch.length
   ·have hkm : ch.getD j 0 ∈ ch := by simp [List.getD, hjl]
    have hkl := hch.lt _ hkm
    have hab := hAB _ hkm
    have hnt : ch.getD j 0 ∉ ch.take j := fun hm => by
     obtain ⟨i, hi, e⟩ := List.getElem_of_mem hm
     simp at hi
     have e1 : ch.getD j 0 = ch[j] := by simp [List.getD, hjl]
     rw [e1, List.getElem_take] at e
     have := (List.getElem_inj hch.nd).1 e
     omega
    have hts : ch.take (j + 1) = ch.take j ++ [ch.getD j 0] := by
     rw [List.take_succ_eq_append_getElem hjl]; simp [List.getD, hjl]
    have lk := intsAt_own (hK.at vl hne2) j (by rw [chI_length]; exact hjl)
    rw [chI_getD hjl] at lk
    obtain ⟨fs1, fs2⟩ := flip_step (a := A) (b := B) hkl hnt
    have hgf : (flip A B (ch.take j) cs).getD (ch.getD j 0) cl0 = gc (flip A B (ch.take j) cs) (ch.getD j 0) := rfl
    have hfl := flip_length A B (ch.take j) cs
    obtain ⟨-, -, x3⟩ := trisAt_own hgb (ch.getD j 0) (by omega)
    rw [hgf, fs2] at x3
    rw [← hts] at fs1
    generalize hkk : ch.getD j 0 = kk at *
    simp -implicitDefEqProofs (disch := omega) only [Nat.reduceEqDiff, ↓reduceIte, vcu, ↓vcd, q2, q3, q10, q12, q13, q14, h21]
    refine region_tree mixed (quiets [0, 1, 2, 3, 4, 5, 6, 7, 8, 9, 10, 11, 12, 13, 14, 15, 16] (quiets [17, 18] (.one 19 .stop))) [([0, 1, 2, 3, 4, 5, 6, 7, 8, 9, 10, 11, 12, 13, 14, 15, 16], Sub τ13)] (by kernel_rfl) (by kernel_rfl) (fun p hp => by simp only [List.mem_singleton] at hp; subst hp; exact Sub.refl _) ?_
    refine tree_quiets τ13 _ _ _ sf1 (by kernel_rfl) (by kernel_rfl) ?_
    simp -implicitDefEqProofs (disch := omega) only [Nat.reduceEqDiff, ↓reduceIte, vcu, ↓vcd, pickOps_nil, pickOps_cons, pickO_some, List.getElem?_cons_succ, List.getElem?_cons_zero, q2, q3, q10, q12, q13, q14, h21, lk, x3, Int.toNat_natCast]
    refine tree_quiets (fun _ => none) _ _ _ (fun _ _ _ _ => fun x ob e => by cases e) (by kernel_rfl) (by kernel_rfl) ?_
    simp -implicitDefEqProofs (disch := omega) only [Nat.reduceEqDiff, ↓reduceIte, vcu, ↓vcd, pickOps_nil, pickOps_cons, pickO_some, List.getElem?_cons_succ, List.getElem?_cons_zero, q10, Int.toNat_natCast]
    refine tree_one rfl ?_
    refine r_set (g := gb) (i := kk * 3 + 2) (by simp -implicitDefEqProofs (disch := omega) only [Nat.reduceEqDiff, ↓reduceIte, vcu, ↓vcd, Nat.zero_add]) z9r co3 z9r hgb (by rw [tris_length]; omega) fun τ14 k14 e14 => ?_
    simp -implicitDefEqProofs (disch := omega) only [Nat.reduceEqDiff, ↓reduceIte, vcu, ↓vcd] at e14
    rw [(tris_set _ kk (by omega) _).2.2, hgf, fs2, fs1] at e14
    simp -implicitDefEqProofs (disch := omega) only [Nat.reduceEqDiff, ↓reduceIte, vcu, ↓vcd]
    refine ⟨keep_of rfl (fun p hp => by simp only [List.mem_singleton] at hp; subst hp; exact .inl (by kernel_rfl)), tree_stop ?_⟩
    simp -implicitDefEqProofs (disch := omega) only [Nat.reduceEqDiff, ↓reduceIte, vcu, ↓vcd, q2, q3, q10, q12, q13, q14, h21]
    exact ⟨⟨(by first | trivial | rfl | exact Eq.symm (by assumption)), (by first | trivial | rfl | exact Eq.symm (by assumption)), (by first | trivial | rfl | exact Eq.symm (by assumption)), (by first | trivial | rfl | exact Eq.symm (by assumption)), (by first | trivial | rfl | exact Eq.symm (by assumption)), (by first | trivial | rfl | exact Eq.symm (by assumption)), (by first | trivial | rfl | exact Eq.symm (by assumption))⟩, m3 - 1, by omega, j + 1, by omega, by simp, hK.trans k14, e14⟩
   obtain rfl : j = ch.length := by omega
   rw [List.take_length] at hgb
   have hfl := flip_length A B ch cs
   have hs13 : Sub τ τ13 := hK.sub (hs9.trans hs11) nτb
   simp -implicitDefEqProofs (disch := omega) only [Nat.reduceEqDiff, ↓reduceIte, vcu, ↓vcd, q2, q3, q10, q12, q13, q14, h21]
   rw [r_build]
   refine ⟨(_, #[.int .i64 I, .int .i64 O, .int .i64 A]), ⟨ze76, by simp -implicitDefEqProofs (disch := omega) only [Nat.reduceEqDiff, ↓reduceIte, vcu, ↓vcd, q2, q3, q12]; kernel_rfl⟩, ?_⟩
   simp -implicitDefEqProofs (disch := omega) only [Nat.reduceEqDiff, ↓reduceIte, vcu, ↓vcd]
   refine r_lit el30 (out := #[.int .i64 I, .int .i64 O, .int .i64 A]) (by first | kernel_rfl | (simp -implicitDefEqProofs (disch := omega) only [Nat.reduceEqDiff, ↓reduceIte, vcu, ↓vcd]; kernel_rfl)) (by rfl) fun eb τ6 n6 s6 v6 => ?_
   replace v6 : τ6 eb = some ⟨tris [⟨I, O, A⟩], false⟩ := v6
   refine r_pushC (g := gb) (e := eb) (o := 0) (cs := flip A B ch cs) (ds := [⟨I, O, A⟩]) (m := 1) (len := cs.length) el30 (by omega) sl30 (by simp -implicitDefEqProofs (disch := omega) only [Nat.reduceEqDiff, ↓reduceIte, vcu, ↓vcd, q10]) (s6 _ _ hgb) hfl z9q (trisAt_own v6) rfl (by omega) fun gc9 τ15 n9 k9 v15 => ?_
   have s15 : Sub τ τ15 := k9.sub (hs13.trans s6) nτb
   simp -implicitDefEqProofs (disch := omega) only [Nat.reduceEqDiff, ↓reduceIte, vcu, ↓vcd]
   refine fin_two Tryz.results49 ⟨.slice (some ⟨gc9, 0, none⟩) (cs.length + 1) 3, ?_, s1.trans s15, .inr ⟨gc9, by simp [hfl], v15, free_sub (s1.trans (hs13.trans s6)) n9⟩⟩
   simp -implicitDefEqProofs (disch := omega) only [Nat.reduceEqDiff, ↓reduceIte, vcu, ↓vcd]
  | some k =>
   rw [hn] at h18
   have e18 : nI (some k) = (k : Int) := rfl
   rw [e18] at h18
   simp -implicitDefEqProofs (disch := omega) only [Nat.reduceEqDiff, ↓reduceIte, vcu, ↓vcd, g2, g3, g4, g10, g12, g13, g14, g15, g16, g17, h18, h19]
   have hroom := hinv.room hn
   obtain ⟨m', rfl⟩ : ∃ m', m = m' + 1 := ⟨m - 1, by omega⟩
   rw [go_some hn] at hgo
   have hinv' := Inv.step hC hne hfr hinv hn
   obtain ⟨hkl, -, -⟩ := nxt_some hn
   have hwn := wantOf_not A B sd
   refine r_lit el104 (out := #[.int .i64 (k : Int)]) (by first | kernel_rfl | (simp -implicitDefEqProofs (disch := omega) only [Nat.reduceEqDiff, ↓reduceIte, vcu, ↓vcd, h18]; kernel_rfl)) (by rfl) fun e3 τ13 n13 s13 v13 => ?_
   refine r_pushI (g := gl) (e := e3) (o := 0) (k := .i64) (xs := chI ch) (ys := [(k : Int)]) (m := 1) (len := ch.length) el104 (by omega) sl104 (by simp -implicitDefEqProofs (disch := omega) only [Nat.reduceEqDiff, ↓reduceIte, vcu, ↓vcd, g14]) (s13 _ _ vl) (chI_length _) z9q (intsAt_own v13) rfl (by omega) fun g6 τ14 n14 k14 v14 => ?_
   rw [← chI_snoc] at v14
   have hs14 : Sub τ9 τ14 := k14.sub (hs11.trans s13) nl
   have n6 := free_sub (hs11.trans s13) n14
   have hl1 : ch.length + 1 = (ch ++ [k]).length := by simp
   obtain ⟨x1, x2, -⟩ := trisAt_own (hs14 _ _ v9) k hkl
   have hgk : cs.getD k cl0 = gc cs k := rfl
   rw [hgk] at x1 x2
   have hm := hR _ (gc_mem hkl)
   have lE14 := mE _ (hs9.trans hs14)
   generalize gc cs k = c at x1 x2 hm hinv' hgo
   obtain ⟨⟨a1, a2⟩, ⟨a3, a4⟩, -⟩ := hm
   have hA1 := hwa.1
   have hB1 := hwb.1
   cases sd with
   | true =>
    have e15 : (if (true : Bool) = true then (1 : Int) else 0) = 1 := rfl
    rw [e15] at g15
    have w1 : wantOf A B true = A := rfl
    rw [w1] at g17
    simp -implicitDefEqProofs (disch := omega) only [Nat.reduceEqDiff, ↓reduceIte, vcu, ↓vcd, g2, g3, g4, g10, g12, g13, g14, g15, g16, g17, h18, h19, x1, x2, lE14, Int.toNat_natCast, Nat.add_zero]
    exact ⟨⟨(by first | trivial | rfl | exact Eq.symm (by assumption)), (by first | trivial | rfl | exact Eq.symm (by assumption)), (by first | trivial | rfl | exact Eq.symm (by assumption)), (by first | trivial | rfl | exact Eq.symm (by assumption)), (by first | trivial | rfl | exact Eq.symm (by assumption)), (by first | trivial | rfl | exact Eq.symm (by assumption)), (by first | trivial | rfl | exact Eq.symm (by assumption))⟩, m', by omega, ch ++ [k], false, _, g6, by rw [hl1], v14, n6, rfl, rfl, by show Value.int .i64 (A + B - A) = .int .i64 B; congr 1; omega, hs14, hinv', by simp; omega, hgo⟩
   | false =>
    have e15 : (if (false : Bool) = true then (1 : Int) else 0) = 0 := rfl
    rw [e15] at g15
    have w1 : wantOf A B false = B := rfl
    rw [w1] at g17
    simp -implicitDefEqProofs (disch := omega) only [Nat.reduceEqDiff, ↓reduceIte, vcu, ↓vcd, g2, g3, g4, g10, g12, g13, g14, g15, g16, g17, h18, h19, x1, x2, lE14, Int.toNat_natCast, Nat.add_zero]
    exact ⟨⟨(by first | trivial | rfl | exact Eq.symm (by assumption)), (by first | trivial | rfl | exact Eq.symm (by assumption)), (by first | trivial | rfl | exact Eq.symm (by assumption)), (by first | trivial | rfl | exact Eq.symm (by assumption)), (by first | trivial | rfl | exact Eq.symm (by assumption)), (by first | trivial | rfl | exact Eq.symm (by assumption)), (by first | trivial | rfl | exact Eq.symm (by assumption))⟩, m', by omega, ch ++ [k], true, _, g6, by rw [hl1], v14, n6, rfl, rfl, by show Value.int .i64 (A + B - B) = .int .i64 A; congr 1; omega, hs14, hinv', by simp; omega, hgo⟩
end Go.Proofs.YtafkndnmhhjdhaaGreatDoor
namespace Go.Proofs.YtafkndnmhhjdhaaGreatDoor
open Go Go.Abs Go.RowKit Go.Clos
variable {w0 : World}
theorem ownI_lenD {β σ : AHeap} {v : Value} {xs : List Int} (h : OwnI β σ v xs) : alenV Tryz.prog 104 v = some (.int .i64 (xs.length : Int)) := by
 rcases h with ⟨rfl, rfl⟩ | ⟨g, rfl, -, -⟩
 ·exact alenV_slice Tryz.underlying104
 ·exact alenV_slice Tryz.underlying104
theorem rowI_D {β σ : AHeap} {v : Value} {xs : List Int} (h : OwnI β σ v xs) (h0 : 0 < xs.length) : ∃ g, v = .slice (some ⟨g, 0, none⟩) xs.length 1 ∧ σ g = some ⟨ints .i64 xs, false⟩ ∧ β g = none := by
 rcases h with ⟨_, rfl⟩ | ⟨g, e1, e2, e3⟩
 ·simp at h0
 ·exact ⟨g, e1, e2, e3⟩
theorem ownC_lenD {β σ : AHeap} {v : Value} {cs : List Cl} (h : OwnC β σ v cs) : alenV Tryz.prog 30 v = some (.int .i64 (cs.length : Int)) := by
 rcases h with ⟨rfl, rfl⟩ | ⟨g, rfl, -, -⟩
 ·exact alenV_slice Tryz.underlying30
 ·exact alenV_slice Tryz.underlying30
/-- a further call through the first middle switch that is free -/
def putL (s : Sp) (cs : List Cl) (i o : Int) : List Cl := if CV s cs then (match freeV s cs i o with | [] => cs | v :: _ => cs ++ [⟨i, o, v⟩]) else []
def putOk (s : Sp) (cs : List Cl) (i o : Int) : Bool := match freeV s cs i o with | [] => false | _ :: _ => true
theorem putL_no {s : Sp} {cs : List Cl} {i o : Int} (h : ¬ CV s cs) : putL s cs i o = [] ∧ putOk s cs i o = false := by
 unfold putL putOk; rw [if_neg h, freeV_no fun hh => h hh.1]; exact ⟨rfl, rfl⟩
theorem putL_nil {s : Sp} {cs : List Cl} {i o : Int} (h : CV s cs) (hf : freeV s cs i o = []) : putL s cs i o = cs ∧ putOk s cs i o = false := by
 unfold putL putOk; rw [if_pos h, hf]; exact ⟨rfl, rfl⟩
theorem putL_cons {s : Sp} {cs : List Cl} {i o v : Int} {vs : List Int} (h : CV s cs) (hf : freeV s cs i o = v :: vs) : putL s cs i o = cs ++ [⟨i, o, v⟩] ∧ putOk s cs i o = true := by
 unfold putL putOk; rw [if_pos h, hf]; exact ⟨rfl, rfl⟩
def dropOk (s : Sp) (cs : List Cl) (i : Int) : Bool := decide (CV s cs ∧ (dropL cs i).length < cs.length)
def drL (s : Sp) (cs : List Cl) (i : Int) : List Cl := if CV s cs then dropL cs i else []
theorem drL_no {s : Sp} {cs : List Cl} {i : Int} (h : ¬ CV s cs) : drL s cs i = [] ∧ dropOk s cs i = false := by
 unfold drL dropOk; rw [if_neg h, decide_eq_false fun hh => h hh.1]; exact ⟨rfl, rfl⟩
theorem drL_ok {s : Sp} {cs : List Cl} {i : Int} (h : CV s cs) : drL s cs i = dropL cs i ∧ dropOk s cs i = decide ((dropL cs i).length < cs.length) := by
 unfold drL dropOk; rw [if_pos h]; exact ⟨rfl, decide_eq_decide.2 ⟨fun hh => hh.2, fun hh => ⟨h, hh⟩⟩⟩
theorem dropL_le (cs : List Cl) (i : Int) : (dropL cs i).length ≤ cs.length := List.length_filter_le _ _
set_option maxRecDepth 8000 in
theorem specDrop_at (σ : AHeap) (s : Sp) (h o : Nat) (cs : List Cl) (I : Int) (hv : TrisAt σ h o cs) (hl : cs.length ≤ 1048576) :
  ACall Tryz.prog w0 50 [.agg #[.int .i64 s.O, .int .i64 s.E, .int .i64 s.M], .slice (some ⟨h, o, none⟩) cs.length 3, .int .i64 I] σ fun r σ' => ∃ v, r = .tuple #[v, .bool (dropOk s cs I)] ∧ Sub σ σ' ∧ OwnC σ σ' v (drL s cs I) := by
 refine acall_go mixed Tryz.func50 rfl good50 fun pr => ?_
 simp -implicitDefEqProofs (disch := omega) only [Nat.reduceEqDiff, ↓reduceIte, vcu, ↓vcd]
 refine r_boxed fun b τ nb s1 e1 => ?_
 replace e1 : τ b = some ⟨[.int .i64 s.O, .int .i64 s.E, .int .i64 s.M], false⟩ := e1
 have l3 : lds τ b 0 3 = some [.int .i64 s.O, .int .i64 s.E, .int .i64 s.M] := lds_three (ld_of e1 rfl) (ld_of e1 rfl) (ld_of e1 rfl)
 simp -implicitDefEqProofs (disch := omega) only [Nat.reduceEqDiff, ↓reduceIte, vcu, ↓vcd, l3, co29]
 refine (specCV_at τ s.O s.E s.M h o cs (hv.sub s1) hl).mono ?_
 rintro r _ ⟨rfl, rfl⟩
 rename_i τ
 by_cases hC : CV s cs
 case neg =>
  obtain ⟨q1, q2⟩ := drL_no (i := I) hC
  rw [decide_eq_false hC, q1, q2]
  simp -implicitDefEqProofs (disch := omega) only [Nat.reduceEqDiff, ↓reduceIte, vcu, ↓vcd, opK_some, Bool.not_false]
  refine r_lit el30 (out := #[]) (by kernel_rfl) (by kernel_rfl) fun ea τ3 n3 s3 v3 => ?_
  simp -implicitDefEqProofs (disch := omega) only [Nat.reduceEqDiff, ↓reduceIte, vcu, ↓vcd]
  refine fin_two Tryz.results50 ⟨.slice (some ⟨ea, 0, none⟩) 0 3, ?_, s1.trans s3, .inr ⟨ea, rfl, v3, free_sub s1 n3⟩⟩
  simp -implicitDefEqProofs (disch := omega) only [Nat.reduceEqDiff, ↓reduceIte, vcu, ↓vcd]
 rw [decide_eq_true hC]
 obtain ⟨q1, q2⟩ := drL_ok (i := I) hC
 rw [q1, q2]
 have hl12 := hC.len
 simp -implicitDefEqProofs (disch := omega) only [Nat.reduceEqDiff, ↓reduceIte, vcu, ↓vcd, opK_some, Bool.not_true]
 refine r_lit el30 (out := #[]) (by kernel_rfl) (by kernel_rfl) fun ea τ3 n3 s3 v3 => ?_
 simp -implicitDefEqProofs (disch := omega) only [Nat.reduceEqDiff, ↓reduceIte, vcu, ↓vcd]
 refine vc_loop_c mixed (by kernel_rfl) [1, 2] (fun m a τ' => ∃ (k g : Nat), m + k = cs.length ∧ a 9 = .int .i64 k ∧ a 8 = .slice (some ⟨g, 0, none⟩) (dropL (cs.take k) I).length 3 ∧ Sub τ τ' ∧ τ' g = some ⟨tris (dropL (cs.take k) I), false⟩ ∧ τ g = none) cs.length ⟨0, ea, by simp, rfl, rfl, s3, v3, n3⟩ ?_
 rintro m a τ2 hc ⟨k, g, hk, h9, h8, hs, hg, hn⟩
 simp -implicitDefEqProofs (disch := omega) only [Nat.reduceEqDiff, ↓reduceIte, vcu, ↓vcd] at hc
 obtain ⟨h1, h2, -⟩ := hc
 by_cases hlt : k < cs.length
 case neg =>
  obtain rfl : k = cs.length := by omega
  rw [List.take_length] at h8 hg
  simp -implicitDefEqProofs (disch := omega) only [Nat.reduceEqDiff, ↓reduceIte, vcu, ↓vcd, h1, h2, h8, h9]
  refine fin_two Tryz.results50 ⟨.slice (some ⟨g, 0, none⟩) (dropL cs I).length 3, ?_, s1.trans hs, .inr ⟨g, rfl, hg, free_sub s1 hn⟩⟩
  simp -implicitDefEqProofs (disch := omega) only [Nat.reduceEqDiff, ↓reduceIte, vcu, ↓vcd]
  simp
 have hall := ((hv.sub s1).sub hs).all hlt
 obtain ⟨x1, -, -⟩ := ((hv.sub s1).sub hs) k hlt
 have hgk : cs.getD k cl0 = gc cs k := rfl
 rw [hgk] at hall x1
 have ht := dropL_take cs I hlt
 have hle : (dropL (cs.take k) I).length ≤ k := by have := dropL_le (cs.take k) I; simp at this; omega
 generalize gc cs k = c at hall x1 ht
 obtain ⟨ci, co, cv⟩ := c
 dsimp only at hall x1 ht
 by_cases he : ci = I
 ·rw [if_pos he, List.append_nil] at ht
  simp -implicitDefEqProofs (disch := omega) only [Nat.reduceEqDiff, ↓reduceIte, vcu, ↓vcd, h1, h2, h8, h9, x1, Nat.add_zero]
  exact ⟨⟨trivial, trivial, trivial⟩, m - 1, by omega, k + 1, g, by omega, by simp, by rw [ht], hs, by rw [ht]; exact hg, hn⟩
 ·rw [if_neg he] at ht
  simp -implicitDefEqProofs (disch := omega) only [Nat.reduceEqDiff, ↓reduceIte, vcu, ↓vcd, h1, h2, h8, h9, x1, hall, co76, Nat.add_zero]
  refine r_lit el30 (out := #[.int .i64 ci, .int .i64 co, .int .i64 cv]) (by first | kernel_rfl | (simp -implicitDefEqProofs (disch := omega) only [Nat.reduceEqDiff, ↓reduceIte, vcu, ↓vcd]; kernel_rfl)) (by rfl) fun eb τ6 n6 s6 v6 => ?_
  replace v6 : τ6 eb = some ⟨tris [⟨ci, co, cv⟩], false⟩ := v6
  refine r_pushC (g := g) (e := eb) (o := 0) (cs := dropL (cs.take k) I) (ds := [⟨ci, co, cv⟩]) (m := 1) (len := (dropL (cs.take k) I).length) el30 (by omega) sl30 z9q (s6 _ _ hg) rfl z9q (trisAt_own v6) rfl (by omega) fun gc9 τ9 n9 k9 v9 => ?_
  rw [← ht] at v9
  have hle2 : (dropL (cs.take k) I).length + 1 = (dropL (cs.take (k + 1)) I).length := by rw [ht]; simp
  simp -implicitDefEqProofs (disch := omega) only [Nat.reduceEqDiff, ↓reduceIte, vcu, ↓vcd, h1, h2, h9, hle2]
  exact ⟨⟨trivial, trivial, trivial⟩, m - 1, by omega, k + 1, gc9, by omega, by simp, rfl, k9.sub (hs.trans s6) hn, v9, free_sub (hs.trans s6) n9⟩
end Go.Proofs.YtafkndnmhhjdhaaGreatDoor
namespace Go.Proofs.YtafkndnmhhjdhaaGreatDoor
open Go Go.Abs Go.RowKit Go.Dial Go.Clos
variable {w0 : World}
theorem specMove_calls (σ : AHeap) (s : Sp) (v : Value) (cs : List Cl) (I O : Int) (hv : Tris σ v cs) (hl : cs.length ≤ 1048576) :
  ACall Tryz.prog w0 49 [.agg #[.int .i64 s.O, .int .i64 s.E, .int .i64 s.M], v, .int .i64 I, .int .i64 O] σ fun r σ' => ∃ v, r = .tuple #[v, .bool (decide (mvOk s cs I O))] ∧ Sub σ σ' ∧ OwnC σ σ' v (mvL s cs I O) :=
 ACall.tris_arg (pre := [_]) (post := [_, _]) (by kernel_rfl) hv fun σ1 h o hs hg => (specMove_at σ1 s h o cs I O hg hl).mono fun _ _ ⟨v, e, q, O⟩ => ⟨v, e, hs.trans q, O.older hs⟩
theorem specDrop_calls (σ : AHeap) (s : Sp) (v : Value) (cs : List Cl) (I : Int) (hv : Tris σ v cs) (hl : cs.length ≤ 1048576) :
  ACall Tryz.prog w0 50 [.agg #[.int .i64 s.O, .int .i64 s.E, .int .i64 s.M], v, .int .i64 I] σ fun r σ' => ∃ v, r = .tuple #[v, .bool (dropOk s cs I)] ∧ Sub σ σ' ∧ OwnC σ σ' v (drL s cs I) :=
 ACall.tris_arg (pre := [_]) (post := [_]) (by kernel_rfl) hv fun σ1 h o hs hg => (specDrop_at σ1 s h o cs I hg hl).mono fun _ _ ⟨v, e, q, O⟩ => ⟨v, e, hs.trans q, O.older hs⟩
theorem ownC_cellV {β σ : AHeap} {v : Value} {xs : List Cl} (h : OwnC β σ v xs) : v.cells = #[v] ∧ Value.oneCell' v = true := tris_cellV h.tris
set_option maxRecDepth 8000 in
theorem exDo_calls (σ : AHeap) (v : Value) (e : Ex) (d : Dd) (hv : ExV σ v e) (hb : ExB e) (hN : d.t.length ≤ 1048576) :
  ACall Tryz.prog w0 25 [v, ddA d] σ fun r σ' => ∃ w, r = .tuple #[w, .bool (exDo e d).2] ∧ Sub σ σ' ∧ OwnX σ σ' w (exDo e d).1 := by
 have hv0 := hv
 obtain ⟨⟨O, E, M⟩, ps, cs⟩ := e
 obtain ⟨v1, v2, rfl, t1, t2⟩ := hv
 have hb0 := hb
 obtain ⟨b1, b2, b3⟩ := hb
 obtain ⟨K, L, N⟩ := d
 have hNl : N.length ≤ 1048576 := hN
 dsimp only at t1 t2 b1 b2 b3
 unfold exV ddA
 dsimp only
 refine acall_goc mixed Tryz.func25 rfl goodc25 fun pr => ?_
 simp -implicitDefEqProofs (disch := omega) only [Nat.reduceEqDiff, ↓reduceIte, vcu, ↓vcd]
 refine r_boxed fun b τ1 nb s1 eb => ?_
 replace eb : τ1 b = some ⟨[.int .i64 O, .int .i64 E, .int .i64 M, v1, v2], false⟩ := eb
 refine r_boxed fun dd τ2 nd s2 ed => ?_
 replace ed : τ2 dd = some ⟨[.int .i64 K, .int .i64 L, .string (tx N)], false⟩ := ed
 refine r_new ze32 fun h4 τ3 n4 s3 e4 => ?_
 replace e4 : τ3 h4 = some ⟨[.int .i64 0, .int .i64 0, .int .i64 0, .slice none 0 0, .slice none 0 0], false⟩ := e4
 replace eb := s3 _ _ (s2 _ _ eb)
 replace ed := s3 _ _ ed
 have S3 : Sub σ τ3 := s1.trans (s2.trans s3)
 have z4 : σ h4 = none := free_sub (s1.trans s2) n4
 replace t1 := t1.sub S3
 replace t2 := t2.sub S3
 have hX3 : ExV τ3 (exV v1 v2 ⟨⟨O, E, M⟩, ps, cs⟩) ⟨⟨O, E, M⟩, ps, cs⟩ := ⟨v1, v2, rfl, t1, t2⟩
 -- what is loaded of the two arguments, in any later heap
 have y5 : ∀ T, Sub τ3 T → lds T b 0 5 = some [.int .i64 O, .int .i64 E, .int .i64 M, v1, v2] := fun T h => by rw [lds_of (h _ _ eb) (by simp)]; rfl
 have y0 : ∀ T, Sub τ3 T → lds T b 0 3 = some [.int .i64 O, .int .i64 E, .int .i64 M] := fun T h => lds_three (ld_of (h _ _ eb) rfl) (ld_of (h _ _ eb) rfl) (ld_of (h _ _ eb) rfl)
 have y3 : ∀ T, Sub τ3 T → ld T b (0 + 3) = some v1 := fun T h => ld_of (h _ _ eb) rfl
 have y4 : ∀ T, Sub τ3 T → ld T b (0 + 4) = some v2 := fun T h => ld_of (h _ _ eb) rfl
 have u0 : ∀ T, Sub τ3 T → ld T dd 0 = some (.int .i64 K) := fun T h => ld_of (h _ _ ed) rfl
 have u1 : ∀ T, Sub τ3 T → ld T dd 1 = some (.int .i64 L) := fun T h => ld_of (h _ _ ed) rfl
 have u2 : ∀ T, Sub τ3 T → ld T dd 2 = some (.string (tx N)) := fun T h => ld_of (h _ _ ed) rfl
 have hval := exVal_calls (w0 := w0) τ3 _ _ hX3 hb0
 unfold exV at hval
 dsimp only at hval
 have x5 := y5 τ3 (Sub.refl _)
 simp -implicitDefEqProofs (disch := omega) only [Nat.reduceEqDiff, ↓reduceIte, vcu, ↓vcd, x5, co32]
 refine hval.mono ?_
 rintro _ _ ⟨rfl, rfl⟩
 rename_i τ3
 by_cases hok : ExOk ⟨⟨O, E, M⟩, ps, cs⟩
 case neg =>
  rw [decide_eq_false hok]
  have hx : exDo ⟨⟨O, E, M⟩, ps, cs⟩ ⟨K, L, N⟩ = (ex0, false) := if_neg hok
  simp -implicitDefEqProofs (disch := omega) only [Nat.reduceEqDiff, ↓reduceIte, vcu, ↓vcd, opK_some, Bool.not_false]
  rw [r_build]
  refine ⟨(_, #[.int .i64 0, .int .i64 0, .int .i64 0, .slice none 0 0, .slice none 0 0]), ⟨ze32, by first | kernel_rfl | (simp -implicitDefEqProofs (disch := omega) only [Nat.reduceEqDiff, ↓reduceIte, vcu, ↓vcd]; kernel_rfl)⟩, ?_⟩
  simp -implicitDefEqProofs (disch := omega) only [Nat.reduceEqDiff, ↓reduceIte, vcu, ↓vcd]
  refine r_sets (g := h4) (i := 0) (C := [.int .i64 0, .int .i64 0, .int .i64 0, .slice none 0 0, .slice none 0 0]) z9q z9co32 z9r z9z e4 z9l fun T9 k9 e9 => ?_
  replace e9 : T9 h4 = some ⟨[.int .i64 0, .int .i64 0, .int .i64 0, .slice none 0 0, .slice none 0 0], false⟩ := e9
  have l9 : lds T9 h4 0 5 = some [.int .i64 0, .int .i64 0, .int .i64 0, .slice none 0 0, .slice none 0 0] := by rw [lds_of e9 (by simp)]; rfl
  simp -implicitDefEqProofs (disch := omega) only [Nat.reduceEqDiff, ↓reduceIte, vcu, ↓vcd]
  refine fin_ct8 Tryz.results25 T9 (Sub.refl _) (v := exV (.slice none 0 0) (.slice none 0 0) ex0) (by simp -implicitDefEqProofs (disch := omega) only [Nat.reduceEqDiff, ↓reduceIte, vcu, ↓vcd, l9, co32]; rfl) ⟨exV (.slice none 0 0) (.slice none 0 0) ex0, ?_, k9.sub S3 z4, ?_⟩
  ·simp -implicitDefEqProofs (disch := omega) only [Nat.reduceEqDiff, ↓reduceIte, vcu, ↓vcd]
   rw [hx]
  ·rw [hx]
   exact ⟨_, _, rfl, .inl ⟨rfl, rfl⟩, .inl ⟨rfl, rfl⟩⟩
 rw [decide_eq_true hok]
 obtain ⟨hE, hP, hL, hC, hSep⟩ := id hok
 dsimp only at hE hP hL hC hSep
 have hc12 := hC.len
 simp -implicitDefEqProofs (disch := omega) only [Nat.reduceEqDiff, ↓reduceIte, vcu, ↓vcd, opK_some, Bool.not_true, x5, co32]
 refine (copyX_rows τ3 (exV v1 v2 ⟨⟨O, E, M⟩, ps, cs⟩) _ hX3 hb0).mono ?_
 rintro _ τ4 ⟨g1, g2, rfl, s4, w1, w2, m1, m2⟩
 dsimp only at w1 w2
 unfold exV
 dsimp only
 simp -implicitDefEqProofs (disch := omega) only [Nat.reduceEqDiff, ↓reduceIte, vcu, ↓vcd, opK_some]
 refine r_new ze32 fun h6 τ5 n6 s5 e6 => ?_
 replace e6 : τ5 h6 = some ⟨[.int .i64 0, .int .i64 0, .int .i64 0, .slice none 0 0, .slice none 0 0], false⟩ := e6
 have d61 : g1 ≠ h6 := ne_of' n6 w1
 have d62 : g2 ≠ h6 := ne_of' n6 w2
 have d64 : h4 ≠ h6 := ne_of' n6 (s4 _ _ e4)
 have d14 : g1 ≠ h4 := ne_of m1 e4
 have d24 : g2 ≠ h4 := ne_of m2 e4
 have z1 : σ g1 = none := free_sub S3 m1
 have z2 : σ g2 = none := free_sub S3 m2
 have z6 : τ3 h6 = none := free_sub s4 n6
 refine r_sets (g := h6) (i := 0) (C := [.int .i64 0, .int .i64 0, .int .i64 0, .slice none 0 0, .slice none 0 0]) z9q z9co32 z9r z9z e6 z9l fun τ6 k6 f6 => ?_
 replace f6 : τ6 h6 = some ⟨[.int .i64 O, .int .i64 E, .int .i64 M, .slice (some ⟨g1, 0, none⟩) ps.length 1, .slice (some ⟨g2, 0, none⟩) cs.length 3], false⟩ := f6
 have S6 : Sub τ3 τ6 := k6.sub (s4.trans s5) z6
 replace w1 := k6.at (s5 _ _ w1) d61
 replace w2 := k6.at (s5 _ _ w2) d62
 have f4 := k6.at (s5 _ _ (s4 _ _ e4)) d64
 have l6 : lds τ6 h6 0 5 = some [.int .i64 O, .int .i64 E, .int .i64 M, .slice (some ⟨g1, 0, none⟩) ps.length 1, .slice (some ⟨g2, 0, none⟩) cs.length 3] := by rw [lds_of f6 (by simp)]; rfl
 have hS6 := S3.trans S6
 have a0 := u0 τ6 S6
 have a1 := u1 τ6 S6
 have a2 := u2 τ6 S6
 have a3 := y3 τ6 S6
 have a4 := y4 τ6 S6
 have a5 := y5 τ6 S6
 have a00 := y0 τ6 S6
 have ln1 := lenT (t1.sub S6)
 have hX6 := hX3.sub S6
 have hno : ∀ o, doO ⟨⟨O, E, M⟩, ps, cs⟩ ⟨K, L, N⟩ = o → exDo ⟨⟨O, E, M⟩, ps, cs⟩ ⟨K, L, N⟩ = (match o with | some x => (x, true) | none => (⟨⟨O, E, M⟩, ps, cs⟩, false)) := fun o ho => by unfold exDo; rw [if_pos hok, ho] <;> cases o <;> rfl
 simp -implicitDefEqProofs (disch := omega) only [Nat.reduceEqDiff, ↓reduceIte, vcu, ↓vcd, a1, a3, ln1]
 refine (in_calls τ6 L 0 ((ps.length : Int) - 1)).mono ?_
 rintro _ _ ⟨rfl, rfl⟩
 rename_i τ6
 by_cases hin : 0 ≤ L ∧ L ≤ (ps.length : Int) - 1
 case neg =>
  rw [decide_eq_false hin]
  have hx := hno none (if_pos hin)
  dsimp only at hx
  simp -implicitDefEqProofs (disch := omega) only [Nat.reduceEqDiff, ↓reduceIte, vcu, ↓vcd, opK_some, Bool.not_false, l6, co32]
  try simp -implicitDefEqProofs (disch := omega) only [Nat.reduceEqDiff, ↓reduceIte, vcu, ↓vcd, l6, co32]
  refine r_sets (g := h4) (i := 0) (C := [.int .i64 0, .int .i64 0, .int .i64 0, .slice none 0 0, .slice none 0 0]) z9q z9co32 z9r z9z f4 z9l fun T9 k9 e9 => ?_
  replace e9 : T9 h4 = some ⟨[.int .i64 O, .int .i64 E, .int .i64 M, .slice (some ⟨g1, 0, none⟩) ps.length 1, .slice (some ⟨g2, 0, none⟩) cs.length 3], false⟩ := e9
  have l9 : lds T9 h4 0 5 = some [.int .i64 O, .int .i64 E, .int .i64 M, .slice (some ⟨g1, 0, none⟩) ps.length 1, .slice (some ⟨g2, 0, none⟩) cs.length 3] := by rw [lds_of e9 (by simp)]; rfl
  simp -implicitDefEqProofs (disch := omega) only [Nat.reduceEqDiff, ↓reduceIte, vcu, ↓vcd]
  refine fin_ct8 Tryz.results25 T9 (Sub.refl _) (v := exV (.slice (some ⟨g1, 0, none⟩) ps.length 1) (.slice (some ⟨g2, 0, none⟩) cs.length 3) ⟨⟨O, E, M⟩, ps, cs⟩) (by simp -implicitDefEqProofs (disch := omega) only [Nat.reduceEqDiff, ↓reduceIte, vcu, ↓vcd, l9, co32]; rfl) ⟨exV (.slice (some ⟨g1, 0, none⟩) ps.length 1) (.slice (some ⟨g2, 0, none⟩) cs.length 3) ⟨⟨O, E, M⟩, ps, cs⟩, ?_, k9.sub hS6 z4, ?_⟩
  ·simp -implicitDefEqProofs (disch := omega) only [Nat.reduceEqDiff, ↓reduceIte, vcu, ↓vcd]
   rw [hx]
  ·rw [hx]
   exact ⟨_, _, rfl, .inr ⟨g1, rfl, k9.at w1 d14, z1⟩, .inr ⟨g2, rfl, k9.at w2 d24, z2⟩⟩
 rw [decide_eq_true hin]
 have hdo : doO ⟨⟨O, E, M⟩, ps, cs⟩ ⟨K, L, N⟩ = _ := if_neg (fun h => h hin)
 dsimp only at hdo
 have hpeer := peerOf_calls (w0 := w0) τ6 _ _ L hX6 hb0
 unfold exV at hpeer
 dsimp only at hpeer
 rw [show peerV ⟨⟨O, E, M⟩, ps, cs⟩ L = peerS cs L from if_pos hok] at hpeer
 simp -implicitDefEqProofs (disch := omega) only [Nat.reduceEqDiff, ↓reduceIte, vcu, ↓vcd, opK_some, Bool.not_true, a1, a5, co32]
 refine hpeer.mono ?_
 rintro _ _ ⟨rfl, rfl⟩
 rename_i τ6
 by_cases hK0 : K = 0
 ·have dk : decide (K = 0) = true := decide_eq_true hK0
  rw [if_pos hK0] at hdo
  have hline := lineOf_calls (w0 := w0) τ6 _ _ N hX6 hb0
  unfold exV at hline
  dsimp only at hline
  rw [show lineV ⟨⟨O, E, M⟩, ps, cs⟩ N = lineS ps N from if_pos hok] at hline
  have hge := lineS_ge (ps := ps) (t := N)
  have hltp := lineS_lt (ps := ps) (t := N)
  simp -implicitDefEqProofs (disch := omega) only [Nat.reduceEqDiff, ↓reduceIte, vcu, ↓vcd, opK_some, a0, a2, a5, dk, co32]
  refine hline.mono ?_
  rintro _ _ ⟨rfl, rfl⟩
  rename_i τ6
  generalize hto : lineS ps N = to at *
  by_cases h1 : to < 0
  ·have hx := hno none (by rw [hdo, if_pos (.inl h1)])
   dsimp only at hx
   simp -implicitDefEqProofs (disch := omega) only [Nat.reduceEqDiff, ↓reduceIte, vcu, ↓vcd, opK_some, a1, a5, l6, co32]
   try simp -implicitDefEqProofs (disch := omega) only [Nat.reduceEqDiff, ↓reduceIte, vcu, ↓vcd, l6, co32]
   refine r_sets (g := h4) (i := 0) (C := [.int .i64 0, .int .i64 0, .int .i64 0, .slice none 0 0, .slice none 0 0]) z9q z9co32 z9r z9z f4 z9l fun T9 k9 e9 => ?_
   replace e9 : T9 h4 = some ⟨[.int .i64 O, .int .i64 E, .int .i64 M, .slice (some ⟨g1, 0, none⟩) ps.length 1, .slice (some ⟨g2, 0, none⟩) cs.length 3], false⟩ := e9
   have l9 : lds T9 h4 0 5 = some [.int .i64 O, .int .i64 E, .int .i64 M, .slice (some ⟨g1, 0, none⟩) ps.length 1, .slice (some ⟨g2, 0, none⟩) cs.length 3] := by rw [lds_of e9 (by simp)]; rfl
   simp -implicitDefEqProofs (disch := omega) only [Nat.reduceEqDiff, ↓reduceIte, vcu, ↓vcd]
   refine fin_ct8 Tryz.results25 T9 (Sub.refl _) (v := exV (.slice (some ⟨g1, 0, none⟩) ps.length 1) (.slice (some ⟨g2, 0, none⟩) cs.length 3) ⟨⟨O, E, M⟩, ps, cs⟩) (by simp -implicitDefEqProofs (disch := omega) only [Nat.reduceEqDiff, ↓reduceIte, vcu, ↓vcd, l9, co32]; rfl) ⟨exV (.slice (some ⟨g1, 0, none⟩) ps.length 1) (.slice (some ⟨g2, 0, none⟩) cs.length 3) ⟨⟨O, E, M⟩, ps, cs⟩, ?_, k9.sub hS6 z4, ?_⟩
   ·simp -implicitDefEqProofs (disch := omega) only [Nat.reduceEqDiff, ↓reduceIte, vcu, ↓vcd]
    rw [hx]
   ·rw [hx]
    exact ⟨_, _, rfl, .inr ⟨g1, rfl, k9.at w1 d14, z1⟩, .inr ⟨g2, rfl, k9.at w2 d24, z2⟩⟩
  by_cases h2 : to = L
  ·have dl : decide (to = L) = true := decide_eq_true h2
   have hx := hno none (by rw [hdo, if_pos (.inr (.inl h2))])
   dsimp only at hx
   simp -implicitDefEqProofs (disch := omega) only [Nat.reduceEqDiff, ↓reduceIte, vcu, ↓vcd, opK_some, a1, a5, l6, dl, co32]
   try simp -implicitDefEqProofs (disch := omega) only [Nat.reduceEqDiff, ↓reduceIte, vcu, ↓vcd, l6, co32]
   refine r_sets (g := h4) (i := 0) (C := [.int .i64 0, .int .i64 0, .int .i64 0, .slice none 0 0, .slice none 0 0]) z9q z9co32 z9r z9z f4 z9l fun T9 k9 e9 => ?_
   replace e9 : T9 h4 = some ⟨[.int .i64 O, .int .i64 E, .int .i64 M, .slice (some ⟨g1, 0, none⟩) ps.length 1, .slice (some ⟨g2, 0, none⟩) cs.length 3], false⟩ := e9
   have l9 : lds T9 h4 0 5 = some [.int .i64 O, .int .i64 E, .int .i64 M, .slice (some ⟨g1, 0, none⟩) ps.length 1, .slice (some ⟨g2, 0, none⟩) cs.length 3] := by rw [lds_of e9 (by simp)]; rfl
   simp -implicitDefEqProofs (disch := omega) only [Nat.reduceEqDiff, ↓reduceIte, vcu, ↓vcd]
   refine fin_ct8 Tryz.results25 T9 (Sub.refl _) (v := exV (.slice (some ⟨g1, 0, none⟩) ps.length 1) (.slice (some ⟨g2, 0, none⟩) cs.length 3) ⟨⟨O, E, M⟩, ps, cs⟩) (by simp -implicitDefEqProofs (disch := omega) only [Nat.reduceEqDiff, ↓reduceIte, vcu, ↓vcd, l9, co32]; rfl) ⟨exV (.slice (some ⟨g1, 0, none⟩) ps.length 1) (.slice (some ⟨g2, 0, none⟩) cs.length 3) ⟨⟨O, E, M⟩, ps, cs⟩, ?_, k9.sub hS6 z4, ?_⟩
   ·simp -implicitDefEqProofs (disch := omega) only [Nat.reduceEqDiff, ↓reduceIte, vcu, ↓vcd]
    rw [hx]
   ·rw [hx]
    exact ⟨_, _, rfl, .inr ⟨g1, rfl, k9.at w1 d14, z1⟩, .inr ⟨g2, rfl, k9.at w2 d24, z2⟩⟩
  have dl : decide (to = L) = false := decide_eq_false h2
  by_cases h3 : 0 ≤ peerS cs L
  ·have dp : decide (peerS cs L ≥ 0) = true := decide_eq_true h3
   have hx := hno none (by rw [hdo, if_pos (.inr (.inr (.inl h3)))])
   dsimp only at hx
   simp -implicitDefEqProofs (disch := omega) only [Nat.reduceEqDiff, ↓reduceIte, vcu, ↓vcd, opK_some, a1, a5, l6, dl, dp, co32]
   try simp -implicitDefEqProofs (disch := omega) only [Nat.reduceEqDiff, ↓reduceIte, vcu, ↓vcd, l6, co32]
   refine r_sets (g := h4) (i := 0) (C := [.int .i64 0, .int .i64 0, .int .i64 0, .slice none 0 0, .slice none 0 0]) z9q z9co32 z9r z9z f4 z9l fun T9 k9 e9 => ?_
   replace e9 : T9 h4 = some ⟨[.int .i64 O, .int .i64 E, .int .i64 M, .slice (some ⟨g1, 0, none⟩) ps.length 1, .slice (some ⟨g2, 0, none⟩) cs.length 3], false⟩ := e9
   have l9 : lds T9 h4 0 5 = some [.int .i64 O, .int .i64 E, .int .i64 M, .slice (some ⟨g1, 0, none⟩) ps.length 1, .slice (some ⟨g2, 0, none⟩) cs.length 3] := by rw [lds_of e9 (by simp)]; rfl
   simp -implicitDefEqProofs (disch := omega) only [Nat.reduceEqDiff, ↓reduceIte, vcu, ↓vcd]
   refine fin_ct8 Tryz.results25 T9 (Sub.refl _) (v := exV (.slice (some ⟨g1, 0, none⟩) ps.length 1) (.slice (some ⟨g2, 0, none⟩) cs.length 3) ⟨⟨O, E, M⟩, ps, cs⟩) (by simp -implicitDefEqProofs (disch := omega) only [Nat.reduceEqDiff, ↓reduceIte, vcu, ↓vcd, l9, co32]; rfl) ⟨exV (.slice (some ⟨g1, 0, none⟩) ps.length 1) (.slice (some ⟨g2, 0, none⟩) cs.length 3) ⟨⟨O, E, M⟩, ps, cs⟩, ?_, k9.sub hS6 z4, ?_⟩
   ·simp -implicitDefEqProofs (disch := omega) only [Nat.reduceEqDiff, ↓reduceIte, vcu, ↓vcd]
    rw [hx]
   ·rw [hx]
    exact ⟨_, _, rfl, .inr ⟨g1, rfl, k9.at w1 d14, z1⟩, .inr ⟨g2, rfl, k9.at w2 d24, z2⟩⟩
  have dp : decide (peerS cs L ≥ 0) = false := decide_eq_false h3
  have hpeer2 := peerOf_calls (w0 := w0) τ6 _ _ to hX6 hb0
  unfold exV at hpeer2
  dsimp only at hpeer2
  rw [show peerV ⟨⟨O, E, M⟩, ps, cs⟩ to = peerS cs to from if_pos hok] at hpeer2
  simp -implicitDefEqProofs (disch := omega) only [Nat.reduceEqDiff, ↓reduceIte, vcu, ↓vcd, opK_some, a1, a5, dl, dp, co32]
  refine hpeer2.mono ?_
  rintro _ _ ⟨rfl, rfl⟩
  rename_i τ6
  by_cases h4' : 0 ≤ peerS cs to
  ·have dq : decide (peerS cs to ≥ 0) = true := decide_eq_true h4'
   have hx := hno none (by rw [hdo, if_pos (.inr (.inr (.inr h4')))])
   dsimp only at hx
   simp -implicitDefEqProofs (disch := omega) only [Nat.reduceEqDiff, ↓reduceIte, vcu, ↓vcd, opK_some, l6, dq, co32]
   try simp -implicitDefEqProofs (disch := omega) only [Nat.reduceEqDiff, ↓reduceIte, vcu, ↓vcd, l6, co32]
   refine r_sets (g := h4) (i := 0) (C := [.int .i64 0, .int .i64 0, .int .i64 0, .slice none 0 0, .slice none 0 0]) z9q z9co32 z9r z9z f4 z9l fun T9 k9 e9 => ?_
   replace e9 : T9 h4 = some ⟨[.int .i64 O, .int .i64 E, .int .i64 M, .slice (some ⟨g1, 0, none⟩) ps.length 1, .slice (some ⟨g2, 0, none⟩) cs.length 3], false⟩ := e9
   have l9 : lds T9 h4 0 5 = some [.int .i64 O, .int .i64 E, .int .i64 M, .slice (some ⟨g1, 0, none⟩) ps.length 1, .slice (some ⟨g2, 0, none⟩) cs.length 3] := by rw [lds_of e9 (by simp)]; rfl
   simp -implicitDefEqProofs (disch := omega) only [Nat.reduceEqDiff, ↓reduceIte, vcu, ↓vcd]
   refine fin_ct8 Tryz.results25 T9 (Sub.refl _) (v := exV (.slice (some ⟨g1, 0, none⟩) ps.length 1) (.slice (some ⟨g2, 0, none⟩) cs.length 3) ⟨⟨O, E, M⟩, ps, cs⟩) (by simp -implicitDefEqProofs (disch := omega) only [Nat.reduceEqDiff, ↓reduceIte, vcu, ↓vcd, l9, co32]; rfl) ⟨exV (.slice (some ⟨g1, 0, none⟩) ps.length 1) (.slice (some ⟨g2, 0, none⟩) cs.length 3) ⟨⟨O, E, M⟩, ps, cs⟩, ?_, k9.sub hS6 z4, ?_⟩
   ·simp -implicitDefEqProofs (disch := omega) only [Nat.reduceEqDiff, ↓reduceIte, vcu, ↓vcd]
    rw [hx]
   ·rw [hx]
    exact ⟨_, _, rfl, .inr ⟨g1, rfl, k9.at w1 d14, z1⟩, .inr ⟨g2, rfl, k9.at w2 d24, z2⟩⟩
  have dq : decide (peerS cs to ≥ 0) = false := decide_eq_false h4'
  have hnp : ∀ x, ¬ 0 ≤ peerS cs x → ∀ y, ¬ Pr cs x y := fun x hx => by
   rcases peerS_spec cs x with hh | ⟨_, hh⟩
   ·exact absurd ((Pr.lines hC hh).2.1) hx
   ·exact hh
  have hL1 : L < (ps.length : Int) := by omega
  have hto0 : 0 ≤ to := by omega
  obtain ⟨hl1, hl2, -, -⟩ := free_move (e := ⟨⟨O, E, M⟩, ps, cs⟩) hok (i := L) (o := to) ⟨hin.1, hL1⟩ ⟨hto0, hltp⟩ (fun h => h2 h.symm) (hnp L h3) (hnp to h4')
  have hmv : mvOk ⟨O, E, M⟩ cs L to := ⟨⟨hC, hE⟩, hl1, hl2⟩
  have hmL : mvL ⟨O, E, M⟩ cs L to = moveL ⟨O, E, M⟩ cs L to := mvL_ok hmv
  have hx := hno (some ⟨⟨O, E, M⟩, ps, moveL ⟨O, E, M⟩ cs L to⟩) (by rw [hdo, if_neg (by rintro (h | h | h | h) <;> first | exact h1 h | exact h2 h | exact h3 h | exact h4' h)])
  dsimp only at hx
  have hmove := specMove_calls (w0 := w0) τ6 ⟨O, E, M⟩ v2 cs L to (t2.sub S6) b3
  rw [decide_eq_true hmv, hmL] at hmove
  dsimp only at hmove
  simp -implicitDefEqProofs (disch := omega) only [Nat.reduceEqDiff, ↓reduceIte, vcu, ↓vcd, opK_some, dq, a00, a4, a1, co29, Nat.add_zero]
  refine hmove.mono ?_
  rintro _ τ7 ⟨vx, rfl, s7, ox⟩
  have hcv := ownC_cellV ox
  have f6' := s7 _ _ f6
  have w1' := s7 _ _ w1
  have f4' := s7 _ _ f4
  have S7 := hS6.trans s7
  simp -implicitDefEqProofs (disch := omega) only [Nat.reduceEqDiff, ↓reduceIte, vcu, ↓vcd, opK_some, List.getElem?_toArray, List.getElem?_cons_zero, List.getElem?_cons_succ, Bool.not_true]
  refine r_set (g := h6) (i := 4) z9q (by simp -implicitDefEqProofs (disch := omega) only [Nat.reduceEqDiff, ↓reduceIte, vcu, ↓vcd]; exact hcv.1) co30 (by simp -implicitDefEqProofs (disch := omega) only [Nat.reduceEqDiff, ↓reduceIte, vcu, ↓vcd]; exact hcv.2) f6' (by simp) fun τ8 k8 e8 => ?_
  replace e8 : τ8 h6 = some ⟨[.int .i64 O, .int .i64 E, .int .i64 M, .slice (some ⟨g1, 0, none⟩) ps.length 1, vx], false⟩ := by rw [e8]; simp -implicitDefEqProofs (disch := omega) only [Nat.reduceEqDiff, ↓reduceIte, vcu, ↓vcd]; rfl
  have l8 : lds τ8 h6 0 5 = some [.int .i64 O, .int .i64 E, .int .i64 M, .slice (some ⟨g1, 0, none⟩) ps.length 1, vx] := by rw [lds_of e8 (by simp)]; rfl
  have w8 := k8.at w1' d61
  have f48 := k8.at f4' d64
  have o8 := ox.kept k8 f6
  have S8 := k8.sub S7 (free_sub S3 z6)
  simp -implicitDefEqProofs (disch := omega) only [Nat.reduceEqDiff, ↓reduceIte, vcu, ↓vcd, l8, co32]
  refine r_sets (g := h4) (i := 0) (C := [.int .i64 0, .int .i64 0, .int .i64 0, .slice none 0 0, .slice none 0 0]) z9q z9co32 (by simp -implicitDefEqProofs (disch := omega) only [Nat.reduceEqDiff, ↓reduceIte, vcu, ↓vcd]; exact (show ([.int .i64 O, .int .i64 E, .int .i64 M, .slice (some ⟨g1, 0, none⟩) ps.length 1, vx] : List Value).all Value.oneCell' = true from by simp only [List.all_cons, List.all_nil, hcv.2]; rfl)) z9z f48 z9l fun T9 k9 e9 => ?_
  replace e9 : T9 h4 = some ⟨[.int .i64 O, .int .i64 E, .int .i64 M, .slice (some ⟨g1, 0, none⟩) ps.length 1, vx], false⟩ := e9
  have l9 : lds T9 h4 0 5 = some [.int .i64 O, .int .i64 E, .int .i64 M, .slice (some ⟨g1, 0, none⟩) ps.length 1, vx] := by rw [lds_of e9 (by simp)]; rfl
  simp -implicitDefEqProofs (disch := omega) only [Nat.reduceEqDiff, ↓reduceIte, vcu, ↓vcd]
  refine fin_ct8 Tryz.results25 T9 (Sub.refl _) (v := exV (.slice (some ⟨g1, 0, none⟩) ps.length 1) vx ⟨⟨O, E, M⟩, ps, moveL ⟨O, E, M⟩ cs L to⟩) (by simp -implicitDefEqProofs (disch := omega) only [Nat.reduceEqDiff, ↓reduceIte, vcu, ↓vcd, l9, co32]; rfl) ⟨exV (.slice (some ⟨g1, 0, none⟩) ps.length 1) vx ⟨⟨O, E, M⟩, ps, moveL ⟨O, E, M⟩ cs L to⟩, ?_, k9.sub S8 z4, ?_⟩
  ·simp -implicitDefEqProofs (disch := omega) only [Nat.reduceEqDiff, ↓reduceIte, vcu, ↓vcd]
   rw [hx]
  ·rw [hx]
   exact ⟨_, _, rfl, .inr ⟨g1, rfl, k9.at w8 d14, z1⟩, (o8.kept k9 f4).older hS6⟩
 have dk0 : decide (K = 0) = false := decide_eq_false hK0
 rw [if_neg hK0] at hdo
 by_cases hK1 : K = 1
 ·have dk1 : decide (K = 1) = true := decide_eq_true hK1
  rw [if_pos hK1] at hdo
  by_cases h1 : peerS cs L < 0
  ·have hx := hno none (by rw [hdo, if_pos (.inl h1)])
   dsimp only at hx
   simp -implicitDefEqProofs (disch := omega) only [Nat.reduceEqDiff, ↓reduceIte, vcu, ↓vcd, opK_some, a0, dk0, dk1, l6, co32]
   try simp -implicitDefEqProofs (disch := omega) only [Nat.reduceEqDiff, ↓reduceIte, vcu, ↓vcd, l6, co32]
   refine r_sets (g := h4) (i := 0) (C := [.int .i64 0, .int .i64 0, .int .i64 0, .slice none 0 0, .slice none 0 0]) z9q z9co32 z9r z9z f4 z9l fun T9 k9 e9 => ?_
   replace e9 : T9 h4 = some ⟨[.int .i64 O, .int .i64 E, .int .i64 M, .slice (some ⟨g1, 0, none⟩) ps.length 1, .slice (some ⟨g2, 0, none⟩) cs.length 3], false⟩ := e9
   have l9 : lds T9 h4 0 5 = some [.int .i64 O, .int .i64 E, .int .i64 M, .slice (some ⟨g1, 0, none⟩) ps.length 1, .slice (some ⟨g2, 0, none⟩) cs.length 3] := by rw [lds_of e9 (by simp)]; rfl
   simp -implicitDefEqProofs (disch := omega) only [Nat.reduceEqDiff, ↓reduceIte, vcu, ↓vcd]
   refine fin_ct8 Tryz.results25 T9 (Sub.refl _) (v := exV (.slice (some ⟨g1, 0, none⟩) ps.length 1) (.slice (some ⟨g2, 0, none⟩) cs.length 3) ⟨⟨O, E, M⟩, ps, cs⟩) (by simp -implicitDefEqProofs (disch := omega) only [Nat.reduceEqDiff, ↓reduceIte, vcu, ↓vcd, l9, co32]; rfl) ⟨exV (.slice (some ⟨g1, 0, none⟩) ps.length 1) (.slice (some ⟨g2, 0, none⟩) cs.length 3) ⟨⟨O, E, M⟩, ps, cs⟩, ?_, k9.sub hS6 z4, ?_⟩
   ·simp -implicitDefEqProofs (disch := omega) only [Nat.reduceEqDiff, ↓reduceIte, vcu, ↓vcd]
    rw [hx]
   ·rw [hx]
    exact ⟨_, _, rfl, .inr ⟨g1, rfl, k9.at w1 d14, z1⟩, .inr ⟨g2, rfl, k9.at w2 d24, z2⟩⟩
  by_cases h2 : N = []
  case neg =>
   have dn : decide (N = []) = false := decide_eq_false h2
   have hx := hno none (by rw [hdo, if_pos (.inr h2)])
   dsimp only at hx
   simp -implicitDefEqProofs (disch := omega) only [Nat.reduceEqDiff, ↓reduceIte, vcu, ↓vcd, opK_some, a0, a2, dk0, dk1, tx_nil, abin_sneq, dn, Bool.not_false, l6, co32]
   try simp -implicitDefEqProofs (disch := omega) only [Nat.reduceEqDiff, ↓reduceIte, vcu, ↓vcd, l6, co32]
   refine r_sets (g := h4) (i := 0) (C := [.int .i64 0, .int .i64 0, .int .i64 0, .slice none 0 0, .slice none 0 0]) z9q z9co32 z9r z9z f4 z9l fun T9 k9 e9 => ?_
   replace e9 : T9 h4 = some ⟨[.int .i64 O, .int .i64 E, .int .i64 M, .slice (some ⟨g1, 0, none⟩) ps.length 1, .slice (some ⟨g2, 0, none⟩) cs.length 3], false⟩ := e9
   have l9 : lds T9 h4 0 5 = some [.int .i64 O, .int .i64 E, .int .i64 M, .slice (some ⟨g1, 0, none⟩) ps.length 1, .slice (some ⟨g2, 0, none⟩) cs.length 3] := by rw [lds_of e9 (by simp)]; rfl
   simp -implicitDefEqProofs (disch := omega) only [Nat.reduceEqDiff, ↓reduceIte, vcu, ↓vcd]
   refine fin_ct8 Tryz.results25 T9 (Sub.refl _) (v := exV (.slice (some ⟨g1, 0, none⟩) ps.length 1) (.slice (some ⟨g2, 0, none⟩) cs.length 3) ⟨⟨O, E, M⟩, ps, cs⟩) (by simp -implicitDefEqProofs (disch := omega) only [Nat.reduceEqDiff, ↓reduceIte, vcu, ↓vcd, l9, co32]; rfl) ⟨exV (.slice (some ⟨g1, 0, none⟩) ps.length 1) (.slice (some ⟨g2, 0, none⟩) cs.length 3) ⟨⟨O, E, M⟩, ps, cs⟩, ?_, k9.sub hS6 z4, ?_⟩
   ·simp -implicitDefEqProofs (disch := omega) only [Nat.reduceEqDiff, ↓reduceIte, vcu, ↓vcd]
    rw [hx]
   ·rw [hx]
    exact ⟨_, _, rfl, .inr ⟨g1, rfl, k9.at w1 d14, z1⟩, .inr ⟨g2, rfl, k9.at w2 d24, z2⟩⟩
  have dn : decide (N = []) = true := decide_eq_true h2
  rw [if_neg (by rintro (h | h) <;> first | exact h1 h | exact h h2)] at hdo
  have hdrop := specDrop_calls (w0 := w0) τ6 ⟨O, E, M⟩ v2 cs L (t2.sub S6) b3
  rw [(drL_ok hC).1, (drL_ok hC).2] at hdrop
  dsimp only at hdrop
  simp -implicitDefEqProofs (disch := omega) only [Nat.reduceEqDiff, ↓reduceIte, vcu, ↓vcd, opK_some, a0, a1, a2, a00, a4, dk0, dk1, tx_nil, abin_sneq, dn, Bool.not_true, co29, Nat.add_zero]
  refine hdrop.mono ?_
  rintro _ τ7 ⟨vx, rfl, s7, ox⟩
  have f6' := s7 _ _ f6
  have w1' := s7 _ _ w1
  have f4' := s7 _ _ f4
  have S7 := hS6.trans s7
  by_cases hlen : (dropL cs L).length < cs.length
  ·have dd' : decide ((dropL cs L).length < cs.length) = true := decide_eq_true hlen
   have hcv := ownC_cellV ox
   have hx := hno (some ⟨⟨O, E, M⟩, ps, dropL cs L⟩) (by rw [hdo, if_pos hlen])
   dsimp only at hx
   simp -implicitDefEqProofs (disch := omega) only [Nat.reduceEqDiff, ↓reduceIte, vcu, ↓vcd, opK_some, List.getElem?_toArray, List.getElem?_cons_zero, List.getElem?_cons_succ, dd', Bool.not_true]
   refine r_set (g := h6) (i := 4) z9q (by simp -implicitDefEqProofs (disch := omega) only [Nat.reduceEqDiff, ↓reduceIte, vcu, ↓vcd]; exact hcv.1) co30 (by simp -implicitDefEqProofs (disch := omega) only [Nat.reduceEqDiff, ↓reduceIte, vcu, ↓vcd]; exact hcv.2) f6' (by simp) fun τ8 k8 e8 => ?_
   replace e8 : τ8 h6 = some ⟨[.int .i64 O, .int .i64 E, .int .i64 M, .slice (some ⟨g1, 0, none⟩) ps.length 1, vx], false⟩ := by rw [e8]; simp -implicitDefEqProofs (disch := omega) only [Nat.reduceEqDiff, ↓reduceIte, vcu, ↓vcd]; rfl
   have l8 : lds τ8 h6 0 5 = some [.int .i64 O, .int .i64 E, .int .i64 M, .slice (some ⟨g1, 0, none⟩) ps.length 1, vx] := by rw [lds_of e8 (by simp)]; rfl
   have w8 := k8.at w1' d61
   have f48 := k8.at f4' d64
   have o8 := ox.kept k8 f6
   have S8 := k8.sub S7 (free_sub S3 z6)
   simp -implicitDefEqProofs (disch := omega) only [Nat.reduceEqDiff, ↓reduceIte, vcu, ↓vcd, l8, co32]
   refine r_sets (g := h4) (i := 0) (C := [.int .i64 0, .int .i64 0, .int .i64 0, .slice none 0 0, .slice none 0 0]) z9q z9co32 (by simp -implicitDefEqProofs (disch := omega) only [Nat.reduceEqDiff, ↓reduceIte, vcu, ↓vcd]; exact (show ([.int .i64 O, .int .i64 E, .int .i64 M, .slice (some ⟨g1, 0, none⟩) ps.length 1, vx] : List Value).all Value.oneCell' = true from by simp only [List.all_cons, List.all_nil, hcv.2]; rfl)) z9z f48 z9l fun T9 k9 e9 => ?_
   replace e9 : T9 h4 = some ⟨[.int .i64 O, .int .i64 E, .int .i64 M, .slice (some ⟨g1, 0, none⟩) ps.length 1, vx], false⟩ := e9
   have l9 : lds T9 h4 0 5 = some [.int .i64 O, .int .i64 E, .int .i64 M, .slice (some ⟨g1, 0, none⟩) ps.length 1, vx] := by rw [lds_of e9 (by simp)]; rfl
   simp -implicitDefEqProofs (disch := omega) only [Nat.reduceEqDiff, ↓reduceIte, vcu, ↓vcd]
   refine fin_ct8 Tryz.results25 T9 (Sub.refl _) (v := exV (.slice (some ⟨g1, 0, none⟩) ps.length 1) vx ⟨⟨O, E, M⟩, ps, dropL cs L⟩) (by simp -implicitDefEqProofs (disch := omega) only [Nat.reduceEqDiff, ↓reduceIte, vcu, ↓vcd, l9, co32]; rfl) ⟨exV (.slice (some ⟨g1, 0, none⟩) ps.length 1) vx ⟨⟨O, E, M⟩, ps, dropL cs L⟩, ?_, k9.sub S8 z4, ?_⟩
   ·simp -implicitDefEqProofs (disch := omega) only [Nat.reduceEqDiff, ↓reduceIte, vcu, ↓vcd]
    rw [hx]
   ·rw [hx]
    exact ⟨_, _, rfl, .inr ⟨g1, rfl, k9.at w8 d14, z1⟩, (o8.kept k9 f4).older hS6⟩
  have dd' : decide ((dropL cs L).length < cs.length) = false := decide_eq_false hlen
  have hx := hno (some ⟨⟨O, E, M⟩, ps, dropL cs (peerS cs L)⟩) (by rw [hdo, if_neg hlen])
  dsimp only at hx
  have hdrop2 := specDrop_calls (w0 := w0) τ7 ⟨O, E, M⟩ v2 cs (peerS cs L) ((t2.sub S6).sub s7) b3
  rw [(drL_ok hC).1, (drL_ok hC).2] at hdrop2
  dsimp only at hdrop2
  have c00 := y0 τ7 (S6.trans s7)
  have c4 := y4 τ7 (S6.trans s7)
  simp -implicitDefEqProofs (disch := omega) only [Nat.reduceEqDiff, ↓reduceIte, vcu, ↓vcd, opK_some, List.getElem?_toArray, List.getElem?_cons_zero, List.getElem?_cons_succ, dd', Bool.not_false, c00, c4, co29, Nat.add_zero]
  refine hdrop2.mono ?_
  rintro _ τ8' ⟨vx, rfl, s8', ox'⟩
  have hcv := ownC_cellV ox'
  have f6'' := s8' _ _ f6'
  have w1'' := s8' _ _ w1'
  have f4'' := s8' _ _ f4'
  have S8' := S7.trans s8'
  simp -implicitDefEqProofs (disch := omega) only [Nat.reduceEqDiff, ↓reduceIte, vcu, ↓vcd, opK_some, List.getElem?_toArray, List.getElem?_cons_zero, List.getElem?_cons_succ]
  refine r_set (g := h6) (i := 4) z9q (by simp -implicitDefEqProofs (disch := omega) only [Nat.reduceEqDiff, ↓reduceIte, vcu, ↓vcd]; exact hcv.1) co30 (by simp -implicitDefEqProofs (disch := omega) only [Nat.reduceEqDiff, ↓reduceIte, vcu, ↓vcd]; exact hcv.2) f6'' (by simp) fun τ8 k8 e8 => ?_
  replace e8 : τ8 h6 = some ⟨[.int .i64 O, .int .i64 E, .int .i64 M, .slice (some ⟨g1, 0, none⟩) ps.length 1, vx], false⟩ := by rw [e8]; simp -implicitDefEqProofs (disch := omega) only [Nat.reduceEqDiff, ↓reduceIte, vcu, ↓vcd]; rfl
  have l8 : lds τ8 h6 0 5 = some [.int .i64 O, .int .i64 E, .int .i64 M, .slice (some ⟨g1, 0, none⟩) ps.length 1, vx] := by rw [lds_of e8 (by simp)]; rfl
  have w8 := k8.at w1'' d61
  have f48 := k8.at f4'' d64
  have o8 := ox'.kept k8 f6'
  have S8 := k8.sub S8' (free_sub S3 z6)
  simp -implicitDefEqProofs (disch := omega) only [Nat.reduceEqDiff, ↓reduceIte, vcu, ↓vcd, l8, co32]
  refine r_sets (g := h4) (i := 0) (C := [.int .i64 0, .int .i64 0, .int .i64 0, .slice none 0 0, .slice none 0 0]) z9q z9co32 (by simp -implicitDefEqProofs (disch := omega) only [Nat.reduceEqDiff, ↓reduceIte, vcu, ↓vcd]; exact (show ([.int .i64 O, .int .i64 E, .int .i64 M, .slice (some ⟨g1, 0, none⟩) ps.length 1, vx] : List Value).all Value.oneCell' = true from by simp only [List.all_cons, List.all_nil, hcv.2]; rfl)) z9z f48 z9l fun T9 k9 e9 => ?_
  replace e9 : T9 h4 = some ⟨[.int .i64 O, .int .i64 E, .int .i64 M, .slice (some ⟨g1, 0, none⟩) ps.length 1, vx], false⟩ := e9
  have l9 : lds T9 h4 0 5 = some [.int .i64 O, .int .i64 E, .int .i64 M, .slice (some ⟨g1, 0, none⟩) ps.length 1, vx] := by rw [lds_of e9 (by simp)]; rfl
  simp -implicitDefEqProofs (disch := omega) only [Nat.reduceEqDiff, ↓reduceIte, vcu, ↓vcd]
  refine fin_ct8 Tryz.results25 T9 (Sub.refl _) (v := exV (.slice (some ⟨g1, 0, none⟩) ps.length 1) vx ⟨⟨O, E, M⟩, ps, dropL cs (peerS cs L)⟩) (by simp -implicitDefEqProofs (disch := omega) only [Nat.reduceEqDiff, ↓reduceIte, vcu, ↓vcd, l9, co32]; rfl) ⟨exV (.slice (some ⟨g1, 0, none⟩) ps.length 1) vx ⟨⟨O, E, M⟩, ps, dropL cs (peerS cs L)⟩, ?_, k9.sub S8 z4, ?_⟩
  ·simp -implicitDefEqProofs (disch := omega) only [Nat.reduceEqDiff, ↓reduceIte, vcu, ↓vcd]
   rw [hx]
  ·rw [hx]
   exact ⟨_, _, rfl, .inr ⟨g1, rfl, k9.at w8 d14, z1⟩, (o8.kept k9 f4').older S7⟩
 have dk1 : decide (K = 1) = false := decide_eq_false hK1
 rw [if_neg hK1] at hdo
 by_cases hK2 : K = 2
 case neg =>
  have dk2 : decide (K = 2) = false := decide_eq_false hK2
  have hx := hno none (by rw [hdo, if_neg hK2])
  dsimp only at hx
  simp -implicitDefEqProofs (disch := omega) only [Nat.reduceEqDiff, ↓reduceIte, vcu, ↓vcd, opK_some, a0, dk0, dk1, dk2, l6, co32]
  try simp -implicitDefEqProofs (disch := omega) only [Nat.reduceEqDiff, ↓reduceIte, vcu, ↓vcd, l6, co32]
  refine r_sets (g := h4) (i := 0) (C := [.int .i64 0, .int .i64 0, .int .i64 0, .slice none 0 0, .slice none 0 0]) z9q z9co32 z9r z9z f4 z9l fun T9 k9 e9 => ?_
  replace e9 : T9 h4 = some ⟨[.int .i64 O, .int .i64 E, .int .i64 M, .slice (some ⟨g1, 0, none⟩) ps.length 1, .slice (some ⟨g2, 0, none⟩) cs.length 3], false⟩ := e9
  have l9 : lds T9 h4 0 5 = some [.int .i64 O, .int .i64 E, .int .i64 M, .slice (some ⟨g1, 0, none⟩) ps.length 1, .slice (some ⟨g2, 0, none⟩) cs.length 3] := by rw [lds_of e9 (by simp)]; rfl
  simp -implicitDefEqProofs (disch := omega) only [Nat.reduceEqDiff, ↓reduceIte, vcu, ↓vcd]
  refine fin_ct8 Tryz.results25 T9 (Sub.refl _) (v := exV (.slice (some ⟨g1, 0, none⟩) ps.length 1) (.slice (some ⟨g2, 0, none⟩) cs.length 3) ⟨⟨O, E, M⟩, ps, cs⟩) (by simp -implicitDefEqProofs (disch := omega) only [Nat.reduceEqDiff, ↓reduceIte, vcu, ↓vcd, l9, co32]; rfl) ⟨exV (.slice (some ⟨g1, 0, none⟩) ps.length 1) (.slice (some ⟨g2, 0, none⟩) cs.length 3) ⟨⟨O, E, M⟩, ps, cs⟩, ?_, k9.sub hS6 z4, ?_⟩
  ·simp -implicitDefEqProofs (disch := omega) only [Nat.reduceEqDiff, ↓reduceIte, vcu, ↓vcd]
   rw [hx]
  ·rw [hx]
   exact ⟨_, _, rfl, .inr ⟨g1, rfl, k9.at w1 d14, z1⟩, .inr ⟨g2, rfl, k9.at w2 d24, z2⟩⟩
 have dk2 : decide (K = 2) = true := decide_eq_true hK2
 rw [if_pos hK2] at hdo
 have hLn : L.toNat < ps.length := by omega
 have c3 : ld τ6 h6 (0 + 3) = some (.slice (some ⟨g1, 0, none⟩) ps.length 1) := ld_of f6 rfl
 simp -implicitDefEqProofs (disch := omega) only [Nat.reduceEqDiff, ↓reduceIte, vcu, ↓vcd, opK_some, a0, a1, a2, dk0, dk1, dk2, c3]
 refine r_setX (g := g1) (i := 0 + L.toNat) (v := N) z9q z9q co9 w1 (by omega) fun τ7 k7 w7 => ?_
 rw [Nat.zero_add] at w7
 have hps : ps ≠ [] := by rintro rfl; simp at hLn
 have d12 : g2 ≠ g1 := by
  rintro rfl
  rw [w1] at w2
  cases ps with
  | nil => exact hps rfl
  | cons p ps => cases cs <;> simp [texts, tris, tri] at w2
 have S7' : Sub τ3 τ7 := k7.sub S6 m1
 have f67 := k7.at f6 d61.symm
 have f47 := k7.at f4 d14.symm
 have w27 := k7.at w2 d12
 have c5 := y5 τ7 S7'
 have c1 := u1 τ7 S7'
 have c2 := u2 τ7 S7'
 have c3 := y3 τ7 S7'
 have c63 : ld τ7 h6 (0 + 3) = some (.slice (some ⟨g1, 0, none⟩) ps.length 1) := ld_of f67 rfl
 obtain ⟨hg, ho, hv1, hrow⟩ := rowT (t1.sub S7') (by omega)
 have hx1 := hrow L.toNat hLn
 by_cases h1 : N = ps.getD L.toNat []
 ·have dn : decide (N = ps.getD L.toNat []) = true := decide_eq_true h1
  have hx := hno none (by rw [hdo, if_pos (.inl h1)])
  dsimp only at hx
  simp -implicitDefEqProofs (disch := omega) only [Nat.reduceEqDiff, ↓reduceIte, vcu, ↓vcd, c1, c2, c3, c5, hv1, hx1, abin_seql, dn, co32]
  rw [← hv1]
  refine (copyX_rows τ7 (exV v1 v2 ⟨⟨O, E, M⟩, ps, cs⟩) _ (hX3.sub S7') hb0).mono ?_
  rintro _ τ8 ⟨q1, q2, rfl, s8, r1, r2, p1, p2⟩
  dsimp only at r1 r2
  unfold exV
  dsimp only
  have f48 := s8 _ _ f47
  have dq1 : q1 ≠ h4 := ne_of p1 f47
  have dq2 : q2 ≠ h4 := ne_of p2 f47
  simp -implicitDefEqProofs (disch := omega) only [Nat.reduceEqDiff, ↓reduceIte, vcu, ↓vcd, opK_some]
  refine r_sets (g := h4) (i := 0) (C := [.int .i64 0, .int .i64 0, .int .i64 0, .slice none 0 0, .slice none 0 0]) z9q z9co32 z9r z9z f48 z9l fun T9 k9 e9 => ?_
  replace e9 : T9 h4 = some ⟨[.int .i64 O, .int .i64 E, .int .i64 M, .slice (some ⟨q1, 0, none⟩) ps.length 1, .slice (some ⟨q2, 0, none⟩) cs.length 3], false⟩ := e9
  have l9 : lds T9 h4 0 5 = some [.int .i64 O, .int .i64 E, .int .i64 M, .slice (some ⟨q1, 0, none⟩) ps.length 1, .slice (some ⟨q2, 0, none⟩) cs.length 3] := by rw [lds_of e9 (by simp)]; rfl
  simp -implicitDefEqProofs (disch := omega) only [Nat.reduceEqDiff, ↓reduceIte, vcu, ↓vcd]
  refine fin_ct8 Tryz.results25 T9 (Sub.refl _) (v := exV (.slice (some ⟨q1, 0, none⟩) ps.length 1) (.slice (some ⟨q2, 0, none⟩) cs.length 3) ⟨⟨O, E, M⟩, ps, cs⟩) (by simp -implicitDefEqProofs (disch := omega) only [Nat.reduceEqDiff, ↓reduceIte, vcu, ↓vcd, l9, co32]; rfl) ⟨exV (.slice (some ⟨q1, 0, none⟩) ps.length 1) (.slice (some ⟨q2, 0, none⟩) cs.length 3) ⟨⟨O, E, M⟩, ps, cs⟩, ?_, k9.sub ((S3.trans S7').trans s8) z4, ?_⟩
  ·simp -implicitDefEqProofs (disch := omega) only [Nat.reduceEqDiff, ↓reduceIte, vcu, ↓vcd]
   rw [hx]
  ·rw [hx]
   exact ⟨_, _, rfl, .inr ⟨q1, rfl, k9.at r1 dq1, free_sub (S3.trans S7') p1⟩, .inr ⟨q2, rfl, k9.at r2 dq2, free_sub (S3.trans S7') p2⟩⟩
 have dn : decide (N = ps.getD L.toNat []) = false := decide_eq_false h1
 have hpl := planValid_calls (w0 := w0) τ7 _ (ps.set L.toNat N) (own_textsI w7) (by rw [List.length_set]; exact b1) (fun x hx => by
  rcases List.mem_or_eq_of_mem_set hx with h | h
  ·exact b2 x h
  ·subst h; exact hNl)
 rw [List.length_set] at hpl
 by_cases h2 : PlanOk (ps.set L.toNat N)
 case neg =>
  rw [decide_eq_false h2] at hpl
  have hx := hno none (by rw [hdo, if_pos (.inr h2)])
  dsimp only at hx
  simp -implicitDefEqProofs (disch := omega) only [Nat.reduceEqDiff, ↓reduceIte, vcu, ↓vcd, c1, c2, c3, c63, hv1, hx1, abin_seql, dn]
  rw [r_callq]
  refine ⟨_, hpl, ?_⟩
  simp -implicitDefEqProofs (disch := omega) only [Nat.reduceEqDiff, ↓reduceIte, vcu, ↓vcd, Bool.not_false, c5, co32]
  refine (copyX_rows τ7 (exV v1 v2 ⟨⟨O, E, M⟩, ps, cs⟩) _ (hX3.sub S7') hb0).mono ?_
  rintro _ τ8 ⟨q1, q2, rfl, s8, r1, r2, p1, p2⟩
  dsimp only at r1 r2
  unfold exV
  dsimp only
  have f48 := s8 _ _ f47
  have dq1 : q1 ≠ h4 := ne_of p1 f47
  have dq2 : q2 ≠ h4 := ne_of p2 f47
  simp -implicitDefEqProofs (disch := omega) only [Nat.reduceEqDiff, ↓reduceIte, vcu, ↓vcd, opK_some]
  refine r_sets (g := h4) (i := 0) (C := [.int .i64 0, .int .i64 0, .int .i64 0, .slice none 0 0, .slice none 0 0]) z9q z9co32 z9r z9z f48 z9l fun T9 k9 e9 => ?_
  replace e9 : T9 h4 = some ⟨[.int .i64 O, .int .i64 E, .int .i64 M, .slice (some ⟨q1, 0, none⟩) ps.length 1, .slice (some ⟨q2, 0, none⟩) cs.length 3], false⟩ := e9
  have l9 : lds T9 h4 0 5 = some [.int .i64 O, .int .i64 E, .int .i64 M, .slice (some ⟨q1, 0, none⟩) ps.length 1, .slice (some ⟨q2, 0, none⟩) cs.length 3] := by rw [lds_of e9 (by simp)]; rfl
  simp -implicitDefEqProofs (disch := omega) only [Nat.reduceEqDiff, ↓reduceIte, vcu, ↓vcd]
  refine fin_ct8 Tryz.results25 T9 (Sub.refl _) (v := exV (.slice (some ⟨q1, 0, none⟩) ps.length 1) (.slice (some ⟨q2, 0, none⟩) cs.length 3) ⟨⟨O, E, M⟩, ps, cs⟩) (by simp -implicitDefEqProofs (disch := omega) only [Nat.reduceEqDiff, ↓reduceIte, vcu, ↓vcd, l9, co32]; rfl) ⟨exV (.slice (some ⟨q1, 0, none⟩) ps.length 1) (.slice (some ⟨q2, 0, none⟩) cs.length 3) ⟨⟨O, E, M⟩, ps, cs⟩, ?_, k9.sub ((S3.trans S7').trans s8) z4, ?_⟩
  ·simp -implicitDefEqProofs (disch := omega) only [Nat.reduceEqDiff, ↓reduceIte, vcu, ↓vcd]
   rw [hx]
  ·rw [hx]
   exact ⟨_, _, rfl, .inr ⟨q1, rfl, k9.at r1 dq1, free_sub (S3.trans S7') p1⟩, .inr ⟨q2, rfl, k9.at r2 dq2, free_sub (S3.trans S7') p2⟩⟩
 rw [decide_eq_true h2] at hpl
 have hx := hno (some ⟨⟨O, E, M⟩, ps.set L.toNat N, cs⟩) (by rw [hdo, if_neg (by rintro (h | h) <;> first | exact h1 h | exact h h2)])
 dsimp only at hx
 have l7 : lds τ7 h6 0 5 = some [.int .i64 O, .int .i64 E, .int .i64 M, .slice (some ⟨g1, 0, none⟩) ps.length 1, .slice (some ⟨g2, 0, none⟩) cs.length 3] := by rw [lds_of f67 (by simp)]; rfl
 simp -implicitDefEqProofs (disch := omega) only [Nat.reduceEqDiff, ↓reduceIte, vcu, ↓vcd, c1, c2, c3, c63, hv1, hx1, abin_seql, dn]
 rw [r_callq]
 refine ⟨_, hpl, ?_⟩
 simp -implicitDefEqProofs (disch := omega) only [Nat.reduceEqDiff, ↓reduceIte, vcu, ↓vcd, Bool.not_true, l7, co32]
 try simp -implicitDefEqProofs (disch := omega) only [Nat.reduceEqDiff, ↓reduceIte, vcu, ↓vcd, l7, co32]
 refine r_sets (g := h4) (i := 0) (C := [.int .i64 0, .int .i64 0, .int .i64 0, .slice none 0 0, .slice none 0 0]) z9q z9co32 z9r z9z f47 z9l fun T9 k9 e9 => ?_
 replace e9 : T9 h4 = some ⟨[.int .i64 O, .int .i64 E, .int .i64 M, .slice (some ⟨g1, 0, none⟩) ps.length 1, .slice (some ⟨g2, 0, none⟩) cs.length 3], false⟩ := e9
 have l9 : lds T9 h4 0 5 = some [.int .i64 O, .int .i64 E, .int .i64 M, .slice (some ⟨g1, 0, none⟩) ps.length 1, .slice (some ⟨g2, 0, none⟩) cs.length 3] := by rw [lds_of e9 (by simp)]; rfl
 simp -implicitDefEqProofs (disch := omega) only [Nat.reduceEqDiff, ↓reduceIte, vcu, ↓vcd]
 refine fin_ct8 Tryz.results25 T9 (Sub.refl _) (v := exV (.slice (some ⟨g1, 0, none⟩) ps.length 1) (.slice (some ⟨g2, 0, none⟩) cs.length 3) ⟨⟨O, E, M⟩, ps.set L.toNat N, cs⟩) (by simp -implicitDefEqProofs (disch := omega) only [Nat.reduceEqDiff, ↓reduceIte, vcu, ↓vcd, l9, co32]; rfl) ⟨exV (.slice (some ⟨g1, 0, none⟩) ps.length 1) (.slice (some ⟨g2, 0, none⟩) cs.length 3) ⟨⟨O, E, M⟩, ps.set L.toNat N, cs⟩, ?_, k9.sub (S3.trans S7') z4, ?_⟩
 ·simp -implicitDefEqProofs (disch := omega) only [Nat.reduceEqDiff, ↓reduceIte, vcu, ↓vcd]
  rw [hx]
 ·rw [hx]
  exact ⟨_, _, rfl, .inr ⟨g1, by rw [List.length_set], k9.at w7 d14, z1⟩, .inr ⟨g2, rfl, k9.at w27 d24, z2⟩⟩
end Go.Proofs.YtafkndnmhhjdhaaGreatDoor
namespace Go.Proofs.YtafkndnmhhjdhaaGreatDoor
open Go Go.Abs Go.RowKit Go.Dial Go.Clos
variable {w0 : World}
theorem exB_of {e : Ex} (h : ExOk e) : ExB e := by
 obtain ⟨h1, h2, h3, h4, h5⟩ := h
 have := h4.len
 have := h2.2
 refine ⟨by omega, fun x hx => ?_, by omega⟩
 obtain ⟨k, hk, rfl⟩ := List.mem_iff_getElem.1 hx
 have := (h2.1 k hk).2.1.2
 simp only [List.getD, List.getElem?_eq_getElem hk, Option.getD_some] at this
 omega
/-- a heap in which two cells of one's own lie besides -/
def Bs (σ : AHeap) (h4 h6 : Nat) : AHeap := (σ.upd h4 (some ⟨[], false⟩)).upd h6 (some ⟨[], false⟩)
theorem Bs_6 {σ : AHeap} {h4 h6 : Nat} : Bs σ h4 h6 h6 = some ⟨[], false⟩ := AHeap.upd_same _ _ _
theorem Bs_4 {σ : AHeap} {h4 h6 : Nat} : Bs σ h4 h6 h4 = some ⟨[], false⟩ := by
 unfold Bs
 by_cases e : h4 = h6
 ·subst e; exact AHeap.upd_same _ _ _
 ·rw [AHeap.upd_ne _ _ e]; exact AHeap.upd_same _ _ _
theorem Bs_free {σ : AHeap} {h4 h6 g : Nat} (h : σ g = none) (n4 : g ≠ h4) (n6 : g ≠ h6) : Bs σ h4 h6 g = none := by
 unfold Bs; rw [AHeap.upd_ne _ _ n6, AHeap.upd_ne _ _ n4]; exact h
theorem Bs_none {σ : AHeap} {h4 h6 g : Nat} (h : Bs σ h4 h6 g = none) : σ g = none ∧ g ≠ h4 ∧ g ≠ h6 := by
 have n6 : g ≠ h6 := by rintro rfl; rw [Bs_6] at h; cases h
 have n4 : g ≠ h4 := by rintro rfl; rw [Bs_4] at h; cases h
 unfold Bs at h
 rw [AHeap.upd_ne _ _ n6, AHeap.upd_ne _ _ n4] at h
 exact ⟨h, n4, n6⟩
theorem OwnX.bs {σ τ τ' : AHeap} {h4 h6 : Nat} {v : Value} {e : Ex} {o4 o6 : AObj} (h : OwnX τ τ' v e) (hs : Sub σ τ) (e4 : τ h4 = some o4) (e6 : τ h6 = some o6) : OwnX (Bs σ h4 h6) τ' v e := by
 obtain ⟨v1, v2, rfl, h1, h2⟩ := h
 refine ⟨v1, v2, rfl, ?_, ?_⟩
 ·exact h1.imp id fun ⟨g, a, b, c⟩ => ⟨g, a, b, Bs_free (free_sub hs c) (ne_of c e4) (ne_of c e6)⟩
 ·exact h2.imp id fun ⟨g, a, b, c⟩ => ⟨g, a, b, Bs_free (free_sub hs c) (ne_of c e4) (ne_of c e6)⟩
theorem OwnX.kept {β σ τ : AHeap} {v : Value} {e : Ex} {k : Nat} {ob : AObj} (h : OwnX β σ v e) (hk : Kept k σ τ) (hb : β k = some ob) : OwnX β τ v e := by
 obtain ⟨v1, v2, rfl, h1, h2⟩ := h
 exact ⟨v1, v2, rfl, h1.kept hk hb, h2.kept hk hb⟩
theorem OwnX.unbs {σ τ : AHeap} {h4 h6 : Nat} {v : Value} {e : Ex} (h : OwnX (Bs σ h4 h6) τ v e) : OwnX σ τ v e := by
 obtain ⟨v1, v2, rfl, h1, h2⟩ := h
 refine ⟨v1, v2, rfl, ?_, ?_⟩
 ·exact h1.imp id fun ⟨g, a, b, c⟩ => ⟨g, a, b, (Bs_none c).1⟩
 ·exact h2.imp id fun ⟨g, a, b, c⟩ => ⟨g, a, b, (Bs_none c).1⟩
theorem rowD {σ : AHeap} {v : Value} {xs : List Dd} (h : Dds σ v xs) (h0 : 0 < xs.length) : ∃ g o, v = .slice (some ⟨g, o, none⟩) xs.length 3 ∧ DdsAt σ g o xs := by
 rcases h with ⟨_, rfl⟩ | h
 ·simp at h0
 ·exact h
theorem lenD {σ : AHeap} {v : Value} {xs : List Dd} (h : Dds σ v xs) : alenV Tryz.prog 59 v = some (.int .i64 (xs.length : Int)) := by
 rcases h with ⟨rfl, rfl⟩ | ⟨g, o, rfl, -⟩ <;> exact alenV_slice Tryz.underlying59
/-- an exchange's cells -/
def exC (v1 v2 : Value) (e : Ex) : List Value := [.int .i64 e.s.O, .int .i64 e.s.E, .int .i64 e.s.M, v1, v2]
theorem exC_one {β σ : AHeap} {v1 v2 : Value} {e : Ex} (h : OwnX β σ (exV v1 v2 e) e) : (exC v1 v2 e).all Value.oneCell' = true := by
 obtain ⟨u1, u2, e1, h1, h2⟩ := h
 unfold exV at e1
 cases e1
 have a := (texts_cellV h1.texts).2
 have b := (tris_cellV h2.tris).2
 unfold exC
 simp only [List.all_cons, List.all_nil, a, b]
 rfl
end Go.Proofs.YtafkndnmhhjdhaaGreatDoor
namespace Go.Proofs.YtafkndnmhhjdhaaGreatDoor
open Go Go.Abs Go.RowKit Go.Dial Go.Clos
variable {w0 : World}
theorem runN_step {e x : Ex} {ds : List Dd} {n k : Nat} (hlt : k < ds.length) (h : runN e ds = ((runN x (ds.drop k)).1, n + (runN x (ds.drop k)).2)) :
  (∀ y, doO x (ds.getD k dd0) = some y → runN e ds = ((runN y (ds.drop (k + 1))).1, (n + 1) + (runN y (ds.drop (k + 1))).2)) ∧
  (doO x (ds.getD k dd0) = none → runN e ds = ((runN x (ds.drop (k + 1))).1, n + (runN x (ds.drop (k + 1))).2)) := by
 have hd : ds.drop k = ds.getD k dd0 :: ds.drop (k + 1) := by rw [List.drop_eq_getElem_cons hlt]; simp [List.getD, hlt]
 rw [hd] at h
 refine ⟨fun y hy => ?_, fun hy => ?_⟩
 ·rw [h, runN, hy]; simp only; refine Prod.ext rfl ?_; simp only; omega
 ·rw [h, runN, hy]
set_option maxRecDepth 8000 in
theorem exRun_calls (σ : AHeap) (v vd : Value) (e : Ex) (ds : List Dd) (hv : ExV σ v e) (hb : ExB e) (hd : Dds σ vd ds) (hl : ds.length ≤ 1048576) (hN : ∀ d ∈ ds, d.t.length ≤ 1048576) :
  ACall Tryz.prog w0 27 [v, vd] σ fun r σ' => ∃ w, r = .tuple #[w, .int .i64 ((exRun e ds).2 : Int)] ∧ Sub σ σ' ∧ OwnX σ σ' w (exRun e ds).1 := by
 have hv0 := hv
 obtain ⟨v1, v2, rfl, t1, t2⟩ := hv
 unfold exV
 refine acall_goc mixed Tryz.func27 rfl goodc27 fun pr => ?_
 simp -implicitDefEqProofs (disch := omega) only [Nat.reduceEqDiff, ↓reduceIte, vcu, ↓vcd]
 refine r_boxed fun b τ1 nb s1 eb => ?_
 replace eb : τ1 b = some ⟨[.int .i64 e.s.O, .int .i64 e.s.E, .int .i64 e.s.M, v1, v2], false⟩ := eb
 refine r_new ze32 fun h4 τ3 n4 s3 e4 => ?_
 replace e4 : τ3 h4 = some ⟨[.int .i64 0, .int .i64 0, .int .i64 0, .slice none 0 0, .slice none 0 0], false⟩ := e4
 replace eb := s3 _ _ eb
 have S3 : Sub σ τ3 := s1.trans s3
 have z4 : σ h4 = none := free_sub s1 n4
 have hX3 := hv0.sub S3
 have x5 : lds τ3 b 0 5 = some [.int .i64 e.s.O, .int .i64 e.s.E, .int .i64 e.s.M, v1, v2] := by rw [lds_of eb (by simp)]; rfl
 have hval := exVal_calls (w0 := w0) τ3 _ _ hX3 hb
 unfold exV at hval
 simp -implicitDefEqProofs (disch := omega) only [Nat.reduceEqDiff, ↓reduceIte, vcu, ↓vcd, x5, co32]
 refine hval.mono ?_
 rintro _ _ ⟨rfl, rfl⟩
 rename_i τ3
 by_cases hok : ExOk e
 case neg =>
  rw [decide_eq_false hok]
  have hx : exRun e ds = (ex0, 0) := if_neg hok
  simp -implicitDefEqProofs (disch := omega) only [Nat.reduceEqDiff, ↓reduceIte, vcu, ↓vcd, opK_some, Bool.not_false]
  rw [r_build]
  refine ⟨(_, #[.int .i64 0, .int .i64 0, .int .i64 0, .slice none 0 0, .slice none 0 0]), ⟨ze32, by first | kernel_rfl | (simp -implicitDefEqProofs (disch := omega) only [Nat.reduceEqDiff, ↓reduceIte, vcu, ↓vcd]; kernel_rfl)⟩, ?_⟩
  simp -implicitDefEqProofs (disch := omega) only [Nat.reduceEqDiff, ↓reduceIte, vcu, ↓vcd]
  refine r_sets (g := h4) (i := 0) (C := [.int .i64 0, .int .i64 0, .int .i64 0, .slice none 0 0, .slice none 0 0]) z9q z9co32 z9r z9z e4 z9l fun T9 k9 e9 => ?_
  replace e9 : T9 h4 = some ⟨[.int .i64 0, .int .i64 0, .int .i64 0, .slice none 0 0, .slice none 0 0], false⟩ := e9
  have l9 : lds T9 h4 0 5 = some [.int .i64 0, .int .i64 0, .int .i64 0, .slice none 0 0, .slice none 0 0] := by rw [lds_of e9 (by simp)]; rfl
  simp -implicitDefEqProofs (disch := omega) only [Nat.reduceEqDiff, ↓reduceIte, vcu, ↓vcd]
  refine fin_ct8 Tryz.results27 T9 (Sub.refl _) (v := exV (.slice none 0 0) (.slice none 0 0) ex0) (by simp -implicitDefEqProofs (disch := omega) only [Nat.reduceEqDiff, ↓reduceIte, vcu, ↓vcd, l9, co32]; rfl) ⟨exV (.slice none 0 0) (.slice none 0 0) ex0, ?_, k9.sub S3 z4, ?_⟩
  ·simp -implicitDefEqProofs (disch := omega) only [Nat.reduceEqDiff, ↓reduceIte, vcu, ↓vcd]
   rw [hx]; rfl
  ·rw [hx]
   exact ⟨_, _, rfl, .inl ⟨rfl, rfl⟩, .inl ⟨rfl, rfl⟩⟩
 rw [decide_eq_true hok]
 have hcopy := copyX_rows (w0 := w0) τ3 (exV v1 v2 e) e hX3 hb
 unfold exV at hcopy
 simp -implicitDefEqProofs (disch := omega) only [Nat.reduceEqDiff, ↓reduceIte, vcu, ↓vcd, opK_some, Bool.not_true, x5, co32]
 refine hcopy.mono ?_
 rintro _ τ4 ⟨g1, g2, rfl, s4, w1, w2, m1, m2⟩
 simp -implicitDefEqProofs (disch := omega) only [Nat.reduceEqDiff, ↓reduceIte, vcu, ↓vcd, opK_some]
 refine r_new ze32 fun h6 τ5 n6 s5 e6 => ?_
 replace e6 : τ5 h6 = some ⟨[.int .i64 0, .int .i64 0, .int .i64 0, .slice none 0 0, .slice none 0 0], false⟩ := e6
 have d61 : g1 ≠ h6 := ne_of' n6 w1
 have d62 : g2 ≠ h6 := ne_of' n6 w2
 have d46 : h4 ≠ h6 := ne_of' n6 (s4 _ _ e4)
 have d14 : g1 ≠ h4 := ne_of m1 e4
 have d24 : g2 ≠ h4 := ne_of m2 e4
 have z1 : σ g1 = none := free_sub S3 m1
 have z2 : σ g2 = none := free_sub S3 m2
 have z6 : σ h6 = none := free_sub (S3.trans s4) n6
 refine r_sets (g := h6) (i := 0) (C := [.int .i64 0, .int .i64 0, .int .i64 0, .slice none 0 0, .slice none 0 0]) z9q z9co32 z9r z9z e6 z9l fun τ6 k6 f6 => ?_
 replace f6 : τ6 h6 = some ⟨exC (.slice (some ⟨g1, 0, none⟩) e.ps.length 1) (.slice (some ⟨g2, 0, none⟩) e.cs.length 3) e, false⟩ := f6
 have S6 : Sub σ τ6 := k6.sub ((S3.trans s4).trans s5) z6
 have w61 := k6.at (s5 _ _ w1) d61
 have w62 := k6.at (s5 _ _ w2) d62
 have f4 := k6.at (s5 _ _ (s4 _ _ e4)) d46
 have hown : OwnX (Bs σ h4 h6) τ6 (exV (.slice (some ⟨g1, 0, none⟩) e.ps.length 1) (.slice (some ⟨g2, 0, none⟩) e.cs.length 3) e) e :=
  ⟨_, _, rfl, .inr ⟨g1, rfl, w61, Bs_free z1 d14 d61⟩, .inr ⟨g2, rfl, w62, Bs_free z2 d24 d62⟩⟩
 have hR : exRun e ds = runN e ds := if_pos hok
 have lnd := fun (T : AHeap) (hs : Sub σ T) => lenD (hd.sub hs)
 simp -implicitDefEqProofs (disch := omega) only [Nat.reduceEqDiff, ↓reduceIte, vcu, ↓vcd]
 refine vc_loop_c mixed (by kernel_rfl) [1, 4, 6] (fun m a τ => ∃ (k n : Nat) (x : Ex) (u1 u2 : Value), m + k = ds.length ∧ a 8 = .int .i64 k ∧ a 7 = .int .i64 n ∧ n ≤ k ∧ ExOk x ∧ runN e ds = ((runN x (ds.drop k)).1, n + (runN x (ds.drop k)).2) ∧ Sub σ τ ∧ τ h6 = some ⟨exC u1 u2 x, false⟩ ∧ τ h4 = some ⟨[.int .i64 0, .int .i64 0, .int .i64 0, .slice none 0 0, .slice none 0 0], false⟩ ∧ OwnX (Bs σ h4 h6) τ (exV u1 u2 x) x) ds.length
  ⟨0, 0, e, _, _, by simp, rfl, rfl, Nat.le_refl _, hok, by simp, S6, f6, f4, hown⟩ ?_
 rintro m a τ hc ⟨k, n, x, u1, u2, hk, h8, h7, hnk, hxo, hrun, hs, q6, q4, hox⟩
 simp -implicitDefEqProofs (disch := omega) only [Nat.reduceEqDiff, ↓reduceIte, vcu, ↓vcd] at hc
 obtain ⟨h1, h4', h6', -⟩ := hc
 have hld := lnd τ hs
 have l6 : lds τ h6 0 5 = some [.int .i64 x.s.O, .int .i64 x.s.E, .int .i64 x.s.M, u1, u2] := by rw [lds_of q6 (by simp [exC])]; rfl
 by_cases hlt : k < ds.length
 case neg =>
  obtain rfl : k = ds.length := by omega
  have hone := exC_one hox
  rw [List.drop_length] at hrun
  have hrun' : exRun e ds = (x, n) := by rw [hR, hrun]; rfl
  simp -implicitDefEqProofs (disch := omega) only [Nat.reduceEqDiff, ↓reduceIte, vcu, ↓vcd, h1, h4', h6', h7, h8, hld, l6, co32]
  refine r_sets (g := h4) (i := 0) (C := [.int .i64 0, .int .i64 0, .int .i64 0, .slice none 0 0, .slice none 0 0]) (by simp -implicitDefEqProofs (disch := omega) only [Nat.reduceEqDiff, ↓reduceIte, vcu, ↓vcd, h4']) z9co32 (by simp -implicitDefEqProofs (disch := omega) only [Nat.reduceEqDiff, ↓reduceIte, vcu, ↓vcd]; exact hone) z9z q4 z9l fun T9 k9 e9 => ?_
  replace e9 : T9 h4 = some ⟨exC u1 u2 x, false⟩ := e9
  have l9 : lds T9 h4 0 5 = some [.int .i64 x.s.O, .int .i64 x.s.E, .int .i64 x.s.M, u1, u2] := by rw [lds_of e9 (by simp [exC])]; rfl
  simp -implicitDefEqProofs (disch := omega) only [Nat.reduceEqDiff, ↓reduceIte, vcu, ↓vcd, h4', h7]
  refine fin_ct8 Tryz.results27 T9 (Sub.refl _) (v := exV u1 u2 x) (by simp -implicitDefEqProofs (disch := omega) only [Nat.reduceEqDiff, ↓reduceIte, vcu, ↓vcd, h4', l9, co32]; rfl) ⟨exV u1 u2 x, ?_, k9.sub hs z4, ?_⟩
  ·simp -implicitDefEqProofs (disch := omega) only [Nat.reduceEqDiff, ↓reduceIte, vcu, ↓vcd]
   rw [hrun']
  ·rw [hrun']
   exact (hox.kept k9 Bs_4).unbs
 obtain ⟨hs1, hs2⟩ := runN_step hlt hrun
 have hmem : ds.getD k dd0 ∈ ds := by simp [List.getD, hlt]
 have hNd := hN _ hmem
 obtain ⟨gd, od, rfl, hrow⟩ := rowD (hd.sub hs) (by omega)
 have hxd := hrow.all hlt
 generalize ds.getD k dd0 = d at hs1 hs2 hxd hNd
 have hexdo := fun (T : AHeap) (hT : Sub τ T) => exDo_calls (w0 := w0) T (exV u1 u2 x) x d (hox.ex.sub hT) (exB_of hxo) hNd
 have hE : exDo x d = (match doO x d with | some y => (y, true) | none => (x, false)) := if_pos hxo
 generalize hyb : exDo x d = yb at hexdo hE
 obtain ⟨y, bo⟩ := yb
 obtain ⟨dk, dl, dt⟩ := d
 unfold ddc at hxd
 unfold ddA exV at hexdo
 dsimp only at hxd hexdo
 simp -implicitDefEqProofs (disch := omega) only [Nat.reduceEqDiff, ↓reduceIte, vcu, ↓vcd, h1, h4', h6', h7, h8, hld]
 refine acodeB_monoX (Q' := fun en a' T => en = .normal ∧ (a' 1 = a 1 ∧ a' 4 = a 4 ∧ a' 6 = a 6 ∧ a' 7 = a 7 ∧ a' 8 = a 8) ∧ ∃ p y1 y2, a' 9 = .pointer (some ⟨p, 0, none⟩) ∧ a' 10 = .bool bo ∧ Sub τ T ∧ T p = some ⟨exC y1 y2 y, false⟩ ∧ OwnX τ T (exV y1 y2 y) y)
  (region_tree mixed (quiets [1, 2, 3] (quiets [0, 4] (.two 5 (quiets [6, 7, 8] (.one 9 (.one 10 (quiets [11] .stop)))) 9 (.one 5 (quiets [6, 7, 8] (.one 10 (quiets [11] .stop))))))) [([0, 4], Sub τ)] (by kernel_rfl) (by kernel_rfl) (fun p hp => by simp only [List.mem_singleton] at hp; subst hp; exact Sub.refl _) ?_) ?_
 ·refine tree_quiets _ _ _ _ sf0 (by kernel_rfl) (by kernel_rfl) ?_
  simp -implicitDefEqProofs (disch := omega) only [Nat.reduceEqDiff, ↓reduceIte, vcu, ↓vcd, pickOps_nil, pickOps_cons, pickO_some, List.getElem?_cons_succ, List.getElem?_cons_zero, h1, h8, h6']
  refine tree_quiets τ _ _ _ sf1 (by kernel_rfl) (by kernel_rfl) ?_
  simp -implicitDefEqProofs (disch := omega) only [Nat.reduceEqDiff, ↓reduceIte, vcu, ↓vcd, pickOps_nil, pickOps_cons, pickO_some, List.getElem?_cons_succ, List.getElem?_cons_zero, h6', l6, hxd, co32, co48]
  refine tree_two rfl rfl ?_ ?_
  ·try simp -implicitDefEqProofs (disch := omega) only [Nat.reduceEqDiff, ↓reduceIte, vcu, ↓vcd]
   refine (hexdo τ (Sub.refl _)).mono ?_
   rintro _ T1 ⟨_, rfl, p1, y1, y2, rfl, oy1, oy2⟩
   have hoy : OwnX τ T1 (exV y1 y2 y) y := ⟨y1, y2, rfl, oy1, oy2⟩
   have hone := exC_one hoy
   unfold exV
   simp -implicitDefEqProofs (disch := omega) only [Nat.reduceEqDiff, ↓reduceIte, vcu, ↓vcd, opK_some]
   refine ⟨keep_of rfl (fun p hp => by simp only [List.mem_singleton] at hp; subst hp; exact .inr p1), ?_⟩
   refine tree_quiets _ _ _ _ sf0 (by kernel_rfl) (by kernel_rfl) ?_
   simp -implicitDefEqProofs (disch := omega) only [Nat.reduceEqDiff, ↓reduceIte, vcu, ↓vcd, pickOps_nil, pickOps_cons, pickO_some, List.getElem?_cons_succ, List.getElem?_cons_zero, List.getElem?_toArray, List.getElem?_cons_zero, List.getElem?_cons_succ]
   refine tree_one rfl ?_
   refine r_new ze32 fun p T2 np sp ep => ?_
   replace ep : T2 p = some ⟨[.int .i64 0, .int .i64 0, .int .i64 0, .slice none 0 0, .slice none 0 0], false⟩ := ep
   simp -implicitDefEqProofs (disch := omega) only [Nat.reduceEqDiff, ↓reduceIte, vcu, ↓vcd]
   have P2 := p1.trans sp
   refine ⟨keep_of rfl (fun p hp => by simp only [List.mem_singleton] at hp; subst hp; exact .inr P2), ?_⟩
   refine tree_one rfl ?_
   refine r_sets (g := p) (i := 0) (C := [.int .i64 0, .int .i64 0, .int .i64 0, .slice none 0 0, .slice none 0 0]) z9q z9co32 (by simp -implicitDefEqProofs (disch := omega) only [Nat.reduceEqDiff, ↓reduceIte, vcu, ↓vcd]; exact hone) z9z ep z9l fun T3 k3 e3 => ?_
   replace e3 : T3 p = some ⟨exC y1 y2 y, false⟩ := e3
   have P3 : Sub τ T3 := k3.sub P2 (free_sub p1 np)
   have hoy3 : OwnX τ T3 (exV y1 y2 y) y := ⟨y1, y2, rfl, (oy1.sub sp).imp id fun ⟨g, a1, a2, a3⟩ => ⟨g, a1, k3.at a2 (by
     rcases oy1 with ⟨h, _⟩ | ⟨g', h, h2, _⟩
     ·rw [a1] at h; cases h
     ·rw [a1] at h; cases h; exact ne_of' np h2), a3⟩, (oy2.sub sp).imp id fun ⟨g, a1, a2, a3⟩ => ⟨g, a1, k3.at a2 (by
     rcases oy2 with ⟨h, _⟩ | ⟨g', h, h2, _⟩
     ·rw [a1] at h; cases h
     ·rw [a1] at h; cases h; exact ne_of' np h2), a3⟩⟩
   simp -implicitDefEqProofs (disch := omega) only [Nat.reduceEqDiff, ↓reduceIte, vcu, ↓vcd]
   refine ⟨keep_of rfl (fun p hp => by simp only [List.mem_singleton] at hp; subst hp; exact .inr P3), ?_⟩
   refine tree_quiets _ _ _ _ sf0 (by kernel_rfl) (by kernel_rfl) ?_
   simp -implicitDefEqProofs (disch := omega) only [Nat.reduceEqDiff, ↓reduceIte, vcu, ↓vcd, pickOps_nil, pickOps_cons, pickO_some, List.getElem?_cons_succ, List.getElem?_cons_zero]
   refine tree_stop ?_
   exact ⟨by first | trivial | rfl, ⟨by first | trivial | rfl | simp -implicitDefEqProofs (disch := omega) only [Nat.reduceEqDiff, ↓reduceIte, vcu, ↓vcd], by first | trivial | rfl | simp -implicitDefEqProofs (disch := omega) only [Nat.reduceEqDiff, ↓reduceIte, vcu, ↓vcd], by first | trivial | rfl | simp -implicitDefEqProofs (disch := omega) only [Nat.reduceEqDiff, ↓reduceIte, vcu, ↓vcd], by first | trivial | rfl | simp -implicitDefEqProofs (disch := omega) only [Nat.reduceEqDiff, ↓reduceIte, vcu, ↓vcd], by first | trivial | rfl | simp -implicitDefEqProofs (disch := omega) only [Nat.reduceEqDiff, ↓reduceIte, vcu, ↓vcd]⟩, p, y1, y2, by first | trivial | rfl | simp -implicitDefEqProofs (disch := omega) only [Nat.reduceEqDiff, ↓reduceIte, vcu, ↓vcd], by first | trivial | rfl | simp -implicitDefEqProofs (disch := omega) only [Nat.reduceEqDiff, ↓reduceIte, vcu, ↓vcd], P3, e3, hoy3⟩
  ·try simp -implicitDefEqProofs (disch := omega) only [Nat.reduceEqDiff, ↓reduceIte, vcu, ↓vcd]
   refine r_new ze32 fun p T1 np sp ep => ?_
   replace ep : T1 p = some ⟨[.int .i64 0, .int .i64 0, .int .i64 0, .slice none 0 0, .slice none 0 0], false⟩ := ep
   simp -implicitDefEqProofs (disch := omega) only [Nat.reduceEqDiff, ↓reduceIte, vcu, ↓vcd]
   refine ⟨keep_of rfl (fun p hp => by simp only [List.mem_singleton] at hp; subst hp; exact .inr sp), ?_⟩
   refine tree_one rfl ?_
   try simp -implicitDefEqProofs (disch := omega) only [Nat.reduceEqDiff, ↓reduceIte, vcu, ↓vcd]
   refine (hexdo T1 sp).mono ?_
   rintro _ T2 ⟨_, rfl, p1, y1, y2, rfl, oy1, oy2⟩
   have hoy : OwnX T1 T2 (exV y1 y2 y) y := ⟨y1, y2, rfl, oy1, oy2⟩
   have hone := exC_one hoy
   unfold exV
   have P2 := sp.trans p1
   simp -implicitDefEqProofs (disch := omega) only [Nat.reduceEqDiff, ↓reduceIte, vcu, ↓vcd, opK_some]
   refine ⟨keep_of rfl (fun p hp => by simp only [List.mem_singleton] at hp; subst hp; exact .inr P2), ?_⟩
   refine tree_quiets _ _ _ _ sf0 (by kernel_rfl) (by kernel_rfl) ?_
   simp -implicitDefEqProofs (disch := omega) only [Nat.reduceEqDiff, ↓reduceIte, vcu, ↓vcd, pickOps_nil, pickOps_cons, pickO_some, List.getElem?_cons_succ, List.getElem?_cons_zero, List.getElem?_toArray, List.getElem?_cons_zero, List.getElem?_cons_succ]
   refine tree_one rfl ?_
   refine r_sets (g := p) (i := 0) (C := [.int .i64 0, .int .i64 0, .int .i64 0, .slice none 0 0, .slice none 0 0]) z9q z9co32 (by simp -implicitDefEqProofs (disch := omega) only [Nat.reduceEqDiff, ↓reduceIte, vcu, ↓vcd]; exact hone) z9z (p1 _ _ ep) z9l fun T3 k3 e3 => ?_
   replace e3 : T3 p = some ⟨exC y1 y2 y, false⟩ := e3
   have P3 : Sub τ T3 := k3.sub P2 np
   have hoy3 : OwnX τ T3 (exV y1 y2 y) y := (hoy.kept k3 ep).older sp
   simp -implicitDefEqProofs (disch := omega) only [Nat.reduceEqDiff, ↓reduceIte, vcu, ↓vcd]
   refine ⟨keep_of rfl (fun p hp => by simp only [List.mem_singleton] at hp; subst hp; exact .inr P3), ?_⟩
   refine tree_quiets _ _ _ _ sf0 (by kernel_rfl) (by kernel_rfl) ?_
   simp -implicitDefEqProofs (disch := omega) only [Nat.reduceEqDiff, ↓reduceIte, vcu, ↓vcd, pickOps_nil, pickOps_cons, pickO_some, List.getElem?_cons_succ, List.getElem?_cons_zero]
   refine tree_stop ?_
   exact ⟨by first | trivial | rfl, ⟨by first | trivial | rfl | simp -implicitDefEqProofs (disch := omega) only [Nat.reduceEqDiff, ↓reduceIte, vcu, ↓vcd], by first | trivial | rfl | simp -implicitDefEqProofs (disch := omega) only [Nat.reduceEqDiff, ↓reduceIte, vcu, ↓vcd], by first | trivial | rfl | simp -implicitDefEqProofs (disch := omega) only [Nat.reduceEqDiff, ↓reduceIte, vcu, ↓vcd], by first | trivial | rfl | simp -implicitDefEqProofs (disch := omega) only [Nat.reduceEqDiff, ↓reduceIte, vcu, ↓vcd], by first | trivial | rfl | simp -implicitDefEqProofs (disch := omega) only [Nat.reduceEqDiff, ↓reduceIte, vcu, ↓vcd]⟩, p, y1, y2, by first | trivial | rfl | simp -implicitDefEqProofs (disch := omega) only [Nat.reduceEqDiff, ↓reduceIte, vcu, ↓vcd], by first | trivial | rfl | simp -implicitDefEqProofs (disch := omega) only [Nat.reduceEqDiff, ↓reduceIte, vcu, ↓vcd], P3, e3, hoy3⟩
 rintro _ a' T ⟨rfl, ⟨r1, r4, r6, r7, r8⟩, p, y1, y2, r9, r10, PT, ep, hoy⟩
 rw [h1] at r1
 rw [h4'] at r4
 rw [h6'] at r6
 rw [h7] at r7
 rw [h8] at r8
 have q6' := PT _ _ q6
 have q4' := PT _ _ q4
 have hone := exC_one hoy
 have hoB := hoy.bs hs q4 q6
 have lp : lds T p 0 5 = some [.int .i64 y.s.O, .int .i64 y.s.E, .int .i64 y.s.M, y1, y2] := by rw [lds_of ep (by simp [exC])]; rfl
 cases hdo : doO x ⟨dk, dl, dt⟩ with
 | none =>
  rw [hdo] at hE
  cases hE
  simp -implicitDefEqProofs (disch := omega) only [Nat.reduceEqDiff, ↓reduceIte, vcu, ↓vcd, r1, r4, r6, r7, r8, r10]
  refine ⟨⟨?_, ?_, ?_, trivial⟩, m - 1, by omega, k + 1, n, x, u1, u2, by omega, by simp, rfl, by omega, hxo, hs2 hdo, hs.trans PT, q6', q4', hox.sub PT⟩
  all_goals first | trivial | exact h1.symm | exact h4'.symm | exact h6'.symm
 | some y' =>
  rw [hdo] at hE
  cases hE
  have D := doO_did hxo hdo
  simp -implicitDefEqProofs (disch := omega) only [Nat.reduceEqDiff, ↓reduceIte, vcu, ↓vcd, r1, r4, r6, r7, r8, r9, r10, lp, co32]
  refine r_sets (g := h6) (i := 0) (C := exC u1 u2 x) (by simp -implicitDefEqProofs (disch := omega) only [Nat.reduceEqDiff, ↓reduceIte, vcu, ↓vcd, r6]) z9co32 (by simp -implicitDefEqProofs (disch := omega) only [Nat.reduceEqDiff, ↓reduceIte, vcu, ↓vcd]; exact hone) z9z q6' z9l fun T9 k9 e9 => ?_
  replace e9 : T9 h6 = some ⟨exC y1 y2 y, false⟩ := e9
  simp -implicitDefEqProofs (disch := omega) only [Nat.reduceEqDiff, ↓reduceIte, vcu, ↓vcd, r1, r4, r6, r7, r8]
  refine ⟨⟨?_, ?_, ?_, trivial⟩, m - 1, by omega, k + 1, n + 1, y, y1, y2, by omega, by simp, by simp, by omega, D.ok, hs1 _ hdo, k9.sub (hs.trans PT) z6, e9, k9.at q4' d46, hoB.kept k9 Bs_6⟩
  all_goals first | trivial | exact h1.symm | exact h4'.symm | exact h6'.symm
end Go.Proofs.YtafkndnmhhjdhaaGreatDoor

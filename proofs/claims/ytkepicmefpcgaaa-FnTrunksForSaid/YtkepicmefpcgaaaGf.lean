/- The draws of chapter 7. -/
import Derived.Test.YtkepicmefpcgaaaZa
import Derived.Test.YtkepicmefpcgaaaGe
set_option linter.unusedSimpArgs false
set_option linter.unusedVariables false
namespace Go.Proofs.Ytkepicmefpcgaaa
open Go Go.Abs Go.RowKit
variable {w0 : World}

def DF (x y : Int) : Prop := (-1 ≤ x ∧ x ≤ 40) ∧ (0 ≤ y ∧ y ≤ 1000000001)
set_option maxRecDepth 8000 in
theorem frac_draw (β σ : AHeap) (g h o : Nat) (bs : List Int) (p n : Int) (hr : Rd β σ g h o bs p) (hp : 0 ≤ p ∧ p ≤ 10000) (hn : 1 ≤ n ∧ n ≤ 1000) :
    ACall Try.prog w0 46 [.pointer (some ⟨g, 0, none⟩), .int .i64 n] σ fun r σ' => ∃ (x y p' : Int), r = .agg #[.int .i64 x, .int .i64 y] ∧ DF x y ∧ p ≤ p' ∧ p' ≤ p + 4 ∧ DS β σ σ' g h o bs p' := by
  refine acall_goc mixed Try.func46 rfl goodc46 fun pr => ?_
  simp -implicitDefEqProofs (disch := omega) only [List.any_cons, List.any_nil, Nat.reduceEqDiff, List.map_cons, List.map_nil, Option.map_some, Option.map_none, List.nil_append, ↓reduceIte, vcu, ↓vcd]
  refine r_new ze24 fun c4 τ1 n4 s1 e4 => ?_
  replace e4 : τ1 c4 = some ⟨[.int .i64 0, .int .i64 0], false⟩ := e4
  have d1 := (DS.start hr).new s1
  obtain ⟨n4, g4⟩ := (DS.start hr).fresh n4
  simp -implicitDefEqProofs (disch := omega) only [List.any_cons, List.any_nil, Nat.reduceEqDiff, List.map_cons, List.map_nil, Option.map_some, Option.map_none, List.nil_append, ↓reduceIte, vcu, ↓vcd]
  refine (odd_at β τ1 g h o bs p n d1.rd (by omega) (by omega)).mono ?_
  rintro r τ2 ⟨b, rfl, hR, hK⟩
  have d2 := d1.step hR hK
  replace e4 := hK.at e4 g4
  clear hR hK d1 s1
  cases b with
  | false =>
    simp -implicitDefEqProofs (disch := omega) only [List.any_cons, List.any_nil, Nat.reduceEqDiff, List.map_cons, List.map_nil, Option.map_some, Option.map_none, List.nil_append, ↓reduceIte, vcu, ↓vcd, opK_some]
    refine (pick_at β τ2 g h o bs (p + 1) 40 d2.rd (by omega) (by omega)).mono ?_
    rintro r τ3 ⟨x, rfl, a1, a2, hR, hK⟩
    have d3 := d2.step hR hK
    replace e4 := hK.at e4 g4
    clear hR hK d2
    simp -implicitDefEqProofs (disch := omega) only [List.any_cons, List.any_nil, Nat.reduceEqDiff, List.map_cons, List.map_nil, Option.map_some, Option.map_none, List.nil_append, ↓reduceIte, vcu, ↓vcd, opK_some]
    refine (pick_at β τ3 g h o bs (p + 1 + 1) 60 d3.rd (by omega) (by omega)).mono ?_
    rintro r τ4 ⟨y, rfl, a3, a4, hR, hK⟩
    have d4 := d3.step hR hK
    replace e4 := hK.at e4 g4
    clear hR hK d3
    simp -implicitDefEqProofs (disch := omega) only [List.any_cons, List.any_nil, Nat.reduceEqDiff, List.map_cons, List.map_nil, Option.map_some, Option.map_none, List.nil_append, ↓reduceIte, vcu, ↓vcd, opK_some]
    rw [r_build]
    refine ⟨(_, #[.int .i64 x, .int .i64 (1 + y)]), ⟨ze24, by simp -implicitDefEqProofs (disch := omega) only [List.any_cons, List.any_nil, Nat.reduceEqDiff, List.map_cons, List.map_nil, Option.map_some, Option.map_none, List.nil_append, ↓reduceIte, vcu, ↓vcd]; kernel_rfl⟩, ?_⟩
    simp -implicitDefEqProofs (disch := omega) only [List.any_cons, List.any_nil, Nat.reduceEqDiff, List.map_cons, List.map_nil, Option.map_some, Option.map_none, List.nil_append, ↓reduceIte, vcu, ↓vcd]
    refine r_sets (g := c4) (i := 0) (C := [.int .i64 0, .int .i64 0]) (by simp -implicitDefEqProofs (disch := omega) only [List.any_cons, List.any_nil, Nat.reduceEqDiff, List.map_cons, List.map_nil, Option.map_some, Option.map_none, List.nil_append, ↓reduceIte, vcu, ↓vcd]) (by simp -implicitDefEqProofs (disch := omega) only [List.any_cons, List.any_nil, Nat.reduceEqDiff, List.map_cons, List.map_nil, Option.map_some, Option.map_none, List.nil_append, ↓reduceIte, vcu, ↓vcd, co24]; rfl) (by simp -implicitDefEqProofs (disch := omega) only [List.any_cons, List.any_nil, Nat.reduceEqDiff, List.map_cons, List.map_nil, Option.map_some, Option.map_none, List.nil_append, ↓reduceIte, vcu, ↓vcd]; rfl) (by simp -implicitDefEqProofs (disch := omega) only [List.any_cons, List.any_nil, Nat.reduceEqDiff, List.map_cons, List.map_nil, Option.map_some, Option.map_none, List.nil_append, ↓reduceIte, vcu, ↓vcd]; exact Nat.zero_lt_succ _) e4 (by simp -implicitDefEqProofs (disch := omega) only [List.any_cons, List.any_nil, Nat.reduceEqDiff, List.map_cons, List.map_nil, Option.map_some, Option.map_none, List.nil_append, ↓reduceIte, vcu, ↓vcd]; exact Nat.le_refl _) fun τ5 k5 e5 => ?_
    replace e5 : τ5 c4 = some ⟨[.int .i64 x, .int .i64 (1 + y)], false⟩ := e5
    have l5 : lds τ5 c4 0 2 = some [.int .i64 x, .int .i64 (1 + y)] := lds_two (ld_of e5 rfl) (ld_of e5 rfl)
    simp -implicitDefEqProofs (disch := omega) only [List.any_cons, List.any_nil, Nat.reduceEqDiff, List.map_cons, List.map_nil, Option.map_some, Option.map_none, List.nil_append, ↓reduceIte, vcu, ↓vcd]
    refine fin_cell Try.results46 τ5 (Sub.refl _) (v := .agg #[.int .i64 x, .int .i64 (1 + y)]) (by simp -implicitDefEqProofs (disch := omega) only [List.any_cons, List.any_nil, Nat.reduceEqDiff, List.map_cons, List.map_nil, Option.map_some, Option.map_none, List.nil_append, ↓reduceIte, vcu, ↓vcd, l5, co24]) ⟨x, 1 + y, p + 1 + 1 + 1, rfl, ⟨by omega, by omega⟩, by omega, by omega, d4.put k5 g4 n4⟩
  | true =>
    simp -implicitDefEqProofs (disch := omega) only [List.any_cons, List.any_nil, Nat.reduceEqDiff, List.map_cons, List.map_nil, Option.map_some, Option.map_none, List.nil_append, ↓reduceIte, vcu, ↓vcd, opK_some]
    rw [r_build]
    refine ⟨(_, #[.int .i64 (-1), .int .i64 5]), ⟨ze24, by simp -implicitDefEqProofs (disch := omega) only [List.any_cons, List.any_nil, Nat.reduceEqDiff, List.map_cons, List.map_nil, Option.map_some, Option.map_none, List.nil_append, ↓reduceIte, vcu, ↓vcd]; kernel_rfl⟩, ?_⟩
    simp -implicitDefEqProofs (disch := omega) only [List.any_cons, List.any_nil, Nat.reduceEqDiff, List.map_cons, List.map_nil, Option.map_some, Option.map_none, List.nil_append, ↓reduceIte, vcu, ↓vcd]
    rw [r_build]
    refine ⟨(_, #[.int .i64 1, .int .i64 0]), ⟨ze24, by simp -implicitDefEqProofs (disch := omega) only [List.any_cons, List.any_nil, Nat.reduceEqDiff, List.map_cons, List.map_nil, Option.map_some, Option.map_none, List.nil_append, ↓reduceIte, vcu, ↓vcd]; kernel_rfl⟩, ?_⟩
    simp -implicitDefEqProofs (disch := omega) only [List.any_cons, List.any_nil, Nat.reduceEqDiff, List.map_cons, List.map_nil, Option.map_some, Option.map_none, List.nil_append, ↓reduceIte, vcu, ↓vcd]
    rw [r_build]
    refine ⟨(_, #[.int .i64 1, .int .i64 1000000001]), ⟨ze24, by simp -implicitDefEqProofs (disch := omega) only [List.any_cons, List.any_nil, Nat.reduceEqDiff, List.map_cons, List.map_nil, Option.map_some, Option.map_none, List.nil_append, ↓reduceIte, vcu, ↓vcd]; kernel_rfl⟩, ?_⟩
    simp -implicitDefEqProofs (disch := omega) only [List.any_cons, List.any_nil, Nat.reduceEqDiff, List.map_cons, List.map_nil, Option.map_some, Option.map_none, List.nil_append, ↓reduceIte, vcu, ↓vcd]
    refine r_lit el59 (out := #[.int .i64 (-1), .int .i64 5, .int .i64 1, .int .i64 0, .int .i64 1, .int .i64 1000000001]) (by simp -implicitDefEqProofs (disch := omega) only [List.any_cons, List.any_nil, Nat.reduceEqDiff, List.map_cons, List.map_nil, Option.map_some, Option.map_none, List.nil_append, ↓reduceIte, vcu, ↓vcd]; kernel_rfl) (by kernel_rfl) fun q τ3 nq sq eq => ?_
    replace eq : τ3 q = some ⟨[.int .i64 (-1), .int .i64 5, .int .i64 1, .int .i64 0, .int .i64 1, .int .i64 1000000001], false⟩ := eq
    have d3 := d2.new sq
    have gq : q ≠ g := (d2.fresh nq).2
    replace e4 := sq _ _ e4
    clear sq nq d2
    simp -implicitDefEqProofs (disch := omega) only [List.any_cons, List.any_nil, Nat.reduceEqDiff, List.map_cons, List.map_nil, Option.map_some, Option.map_none, List.nil_append, ↓reduceIte, vcu, ↓vcd]
    refine (pick_at β τ3 g h o bs (p + 1) 3 d3.rd (by omega) (by omega)).mono ?_
    rintro r τ4 ⟨z, rfl, a1, a2, hR, hK⟩
    have d4 := d3.step hR hK
    replace e4 := hK.at e4 g4
    replace eq := hK.at eq gq
    clear hR hK d3
    -- the fraction that is picked
    obtain ⟨x, y, hD, hl⟩ : ∃ x y : Int, DF x y ∧ lds τ4 q (0 + z.toNat * 2) 2 = some [.int .i64 x, .int .i64 y] := by
      rcases (show z = 0 ∨ z = 1 ∨ z = 2 by omega) with rfl | rfl | rfl
      · exact ⟨-1, 5, ⟨by omega, by omega⟩, lds_two (ld_of eq rfl) (ld_of eq rfl)⟩
      · exact ⟨1, 0, ⟨by omega, by omega⟩, lds_two (ld_of eq rfl) (ld_of eq rfl)⟩
      · exact ⟨1, 1000000001, ⟨by omega, by omega⟩, lds_two (ld_of eq rfl) (ld_of eq rfl)⟩
    simp -implicitDefEqProofs (disch := omega) only [List.any_cons, List.any_nil, Nat.reduceEqDiff, List.map_cons, List.map_nil, Option.map_some, Option.map_none, List.nil_append, ↓reduceIte, vcu, ↓vcd, opK_some, hl, co24]
    refine r_sets (g := c4) (i := 0) (C := [.int .i64 0, .int .i64 0]) (by simp -implicitDefEqProofs (disch := omega) only [List.any_cons, List.any_nil, Nat.reduceEqDiff, List.map_cons, List.map_nil, Option.map_some, Option.map_none, List.nil_append, ↓reduceIte, vcu, ↓vcd]) (by simp -implicitDefEqProofs (disch := omega) only [List.any_cons, List.any_nil, Nat.reduceEqDiff, List.map_cons, List.map_nil, Option.map_some, Option.map_none, List.nil_append, ↓reduceIte, vcu, ↓vcd, co24]; rfl) (by simp -implicitDefEqProofs (disch := omega) only [List.any_cons, List.any_nil, Nat.reduceEqDiff, List.map_cons, List.map_nil, Option.map_some, Option.map_none, List.nil_append, ↓reduceIte, vcu, ↓vcd]; rfl) (by simp -implicitDefEqProofs (disch := omega) only [List.any_cons, List.any_nil, Nat.reduceEqDiff, List.map_cons, List.map_nil, Option.map_some, Option.map_none, List.nil_append, ↓reduceIte, vcu, ↓vcd]; exact Nat.zero_lt_succ _) e4 (by simp -implicitDefEqProofs (disch := omega) only [List.any_cons, List.any_nil, Nat.reduceEqDiff, List.map_cons, List.map_nil, Option.map_some, Option.map_none, List.nil_append, ↓reduceIte, vcu, ↓vcd]; exact Nat.le_refl _) fun τ5 k5 e5 => ?_
    replace e5 : τ5 c4 = some ⟨[.int .i64 x, .int .i64 y], false⟩ := e5
    have l5 : lds τ5 c4 0 2 = some [.int .i64 x, .int .i64 y] := lds_two (ld_of e5 rfl) (ld_of e5 rfl)
    simp -implicitDefEqProofs (disch := omega) only [List.any_cons, List.any_nil, Nat.reduceEqDiff, List.map_cons, List.map_nil, Option.map_some, Option.map_none, List.nil_append, ↓reduceIte, vcu, ↓vcd]
    refine fin_cell Try.results46 τ5 (Sub.refl _) (v := .agg #[.int .i64 x, .int .i64 y]) (by simp -implicitDefEqProofs (disch := omega) only [List.any_cons, List.any_nil, Nat.reduceEqDiff, List.map_cons, List.map_nil, Option.map_some, Option.map_none, List.nil_append, ↓reduceIte, vcu, ↓vcd, l5, co24]) ⟨x, y, p + 1 + 1, rfl, hD, by omega, by omega, d4.put k5 g4 n4⟩
set_option maxRecDepth 8000 in
theorem load_draw (β σ : AHeap) (g h o : Nat) (bs : List Int) (p : Int) (hr : Rd β σ g h o bs p) (hp : 0 ≤ p ∧ p ≤ 10000) :
    ACall Try.prog w0 51 [.pointer (some ⟨g, 0, none⟩)] σ fun r σ' => ∃ (L t : Int), r = .tuple #[.int .i64 L, .int .i64 t] ∧ (-100 ≤ L ∧ L ≤ 100) ∧ (-100 ≤ t ∧ t ≤ 100) ∧ DS β σ σ' g h o bs (p + 1 + 1 + 1 + 1 + 1 + 1) := by
  refine acall_go mixed Try.func51 rfl good51 fun pr => ?_
  simp -implicitDefEqProofs (disch := omega) only [List.any_cons, List.any_nil, Nat.reduceEqDiff, List.map_cons, List.map_nil, Option.map_some, Option.map_none, List.nil_append, ↓reduceIte, vcu, ↓vcd]
  refine (pick_at β σ g h o bs p 7 hr (by omega) (by omega)).mono ?_
  rintro r τ1 ⟨z1, rfl, a1, a2, hR, hK⟩
  have d1 := (DS.start hr).step hR hK
  have q1 := fun z : Int => Int.ediv_nonneg (a := z) (b := 19)
  simp -implicitDefEqProofs (disch := omega) only [List.any_cons, List.any_nil, Nat.reduceEqDiff, List.map_cons, List.map_nil, Option.map_some, Option.map_none, List.nil_append, ↓reduceIte, vcu, ↓vcd, opK_some]
  refine (pick_at β τ1 g h o bs (p + 1) 20 d1.rd (by omega) (by omega)).mono ?_
  rintro r τ2 ⟨z2, rfl, a3, a4, hR, hK⟩
  have d2 := d1.step hR hK
  simp -implicitDefEqProofs (disch := omega) only [List.any_cons, List.any_nil, Nat.reduceEqDiff, List.map_cons, List.map_nil, Option.map_some, Option.map_none, List.nil_append, ↓reduceIte, vcu, ↓vcd, opK_some]
  refine (pick_at β τ2 g h o bs (p + 1 + 1) 20 d2.rd (by omega) (by omega)).mono ?_
  rintro r τ3 ⟨z3, rfl, a5, a6, hR, hK⟩
  have d3 := d2.step hR hK
  simp -implicitDefEqProofs (disch := omega) only [List.any_cons, List.any_nil, Nat.reduceEqDiff, List.map_cons, List.map_nil, Option.map_some, Option.map_none, List.nil_append, ↓reduceIte, vcu, ↓vcd, opK_some]
  refine (pick_at β τ3 g h o bs (p + 1 + 1 + 1) 9 d3.rd (by omega) (by omega)).mono ?_
  rintro r τ4 ⟨z4, rfl, a7, a8, hR, hK⟩
  have d4 := d3.step hR hK
  simp -implicitDefEqProofs (disch := omega) only [List.any_cons, List.any_nil, Nat.reduceEqDiff, List.map_cons, List.map_nil, Option.map_some, Option.map_none, List.nil_append, ↓reduceIte, vcu, ↓vcd, opK_some]
  refine (pick_at β τ4 g h o bs (p + 1 + 1 + 1 + 1) 20 d4.rd (by omega) (by omega)).mono ?_
  rintro r τ5 ⟨z5, rfl, a9, b1, hR, hK⟩
  have d5 := d4.step hR hK
  simp -implicitDefEqProofs (disch := omega) only [List.any_cons, List.any_nil, Nat.reduceEqDiff, List.map_cons, List.map_nil, Option.map_some, Option.map_none, List.nil_append, ↓reduceIte, vcu, ↓vcd, opK_some]
  refine (pick_at β τ5 g h o bs (p + 1 + 1 + 1 + 1 + 1) 20 d5.rd (by omega) (by omega)).mono ?_
  rintro r τ6 ⟨z6, rfl, b2, b3, hR, hK⟩
  have d6 := d5.step hR hK
  simp -implicitDefEqProofs (disch := omega) only [List.any_cons, List.any_nil, Nat.reduceEqDiff, List.map_cons, List.map_nil, Option.map_some, Option.map_none, List.nil_append, ↓reduceIte, vcu, ↓vcd, opK_some]
  refine fin_two Try.results51 ⟨z1 + z2 / 19 * 7 - z3 / 19 * 8, z4 + z5 / 19 * 9 - z6 / 19 * 10, ?_, by omega, by omega, d6⟩
  simp -implicitDefEqProofs (disch := omega) only [List.any_cons, List.any_nil, Nat.reduceEqDiff, List.map_cons, List.map_nil, Option.map_some, Option.map_none, List.nil_append, ↓reduceIte, vcu, ↓vcd]
set_option maxRecDepth 8000 in
theorem drawLostPart_at (σ : AHeap) (h o : Nat) (bs : List Int) (hv : IntsAt .u8 σ h o bs) (hl : bs.length ≤ 1048576) (hb : ∀ b ∈ bs, 0 ≤ b ∧ b ≤ 255) :
    ACall Try.prog w0 24 [.slice (some ⟨h, o, none⟩) bs.length 1] σ fun r σ' => ∃ L t : Int, r = .tuple #[.int .i64 L, .int .i64 t] ∧ (-100 ≤ L ∧ L ≤ 100) ∧ (-100 ≤ t ∧ t ≤ 100) ∧ Sub σ σ' := by
  refine acall_go mixed Try.func24 rfl good24 fun pr => ?_
  simp -implicitDefEqProofs (disch := omega) only [List.any_cons, List.any_nil, Nat.reduceEqDiff, List.map_cons, List.map_nil, Option.map_some, Option.map_none, List.nil_append, ↓reduceIte, vcu, ↓vcd]
  refine (opened σ h o bs hv hl hb).mono ?_
  rintro r τ2 ⟨g, m, rfl, hs2, hR⟩
  simp -implicitDefEqProofs (disch := omega) only [List.any_cons, List.any_nil, Nat.reduceEqDiff, List.map_cons, List.map_nil, Option.map_some, Option.map_none, List.nil_append, ↓reduceIte, vcu, ↓vcd, opK_some]
  refine (load_draw σ τ2 g h o _ 0 hR (by omega)).mono ?_
  rintro r τ3 ⟨L, t, rfl, b1, b2, d⟩
  simp -implicitDefEqProofs (disch := omega) only [List.any_cons, List.any_nil, Nat.reduceEqDiff, List.map_cons, List.map_nil, Option.map_some, Option.map_none, List.nil_append, ↓reduceIte, vcu, ↓vcd, opK_some, List.getElem?_toArray, List.getElem?_cons_zero, List.getElem?_cons_succ]
  refine fin_two Try.results24 ⟨L, t, ?_, b1, b2, d.rd.sub⟩
  simp -implicitDefEqProofs (disch := omega) only [List.any_cons, List.any_nil, Nat.reduceEqDiff, List.map_cons, List.map_nil, Option.map_some, Option.map_none, List.nil_append, ↓reduceIte, vcu, ↓vcd]
set_option maxRecDepth 8000 in
theorem drawLostSum_at (σ : AHeap) (h o : Nat) (bs : List Int) (hv : IntsAt .u8 σ h o bs) (hl : bs.length ≤ 1048576) (hb : ∀ b ∈ bs, 0 ≤ b ∧ b ≤ 255) :
    ACall Try.prog w0 28 [.slice (some ⟨h, o, none⟩) bs.length 1] σ fun r σ' => ∃ L t : Int, r = .tuple #[.int .i64 L, .int .i64 t] ∧ (-100 ≤ L ∧ L ≤ 100) ∧ (-100 ≤ t ∧ t ≤ 100) ∧ Sub σ σ' := by
  refine acall_go mixed Try.func28 rfl good28 fun pr => ?_
  simp -implicitDefEqProofs (disch := omega) only [List.any_cons, List.any_nil, Nat.reduceEqDiff, List.map_cons, List.map_nil, Option.map_some, Option.map_none, List.nil_append, ↓reduceIte, vcu, ↓vcd]
  refine (opened σ h o bs hv hl hb).mono ?_
  rintro r τ2 ⟨g, m, rfl, hs2, hR⟩
  simp -implicitDefEqProofs (disch := omega) only [List.any_cons, List.any_nil, Nat.reduceEqDiff, List.map_cons, List.map_nil, Option.map_some, Option.map_none, List.nil_append, ↓reduceIte, vcu, ↓vcd, opK_some]
  refine (load_draw σ τ2 g h o _ 0 hR (by omega)).mono ?_
  rintro r τ3 ⟨L, t, rfl, b1, b2, d⟩
  simp -implicitDefEqProofs (disch := omega) only [List.any_cons, List.any_nil, Nat.reduceEqDiff, List.map_cons, List.map_nil, Option.map_some, Option.map_none, List.nil_append, ↓reduceIte, vcu, ↓vcd, opK_some, List.getElem?_toArray, List.getElem?_cons_zero, List.getElem?_cons_succ]
  refine fin_two Try.results28 ⟨L, t, ?_, b1, b2, d.rd.sub⟩
  simp -implicitDefEqProofs (disch := omega) only [List.any_cons, List.any_nil, Nat.reduceEqDiff, List.map_cons, List.map_nil, Option.map_some, Option.map_none, List.nil_append, ↓reduceIte, vcu, ↓vcd]
set_option maxRecDepth 8000 in
theorem drawTakenLoad_at (σ : AHeap) (h o : Nat) (bs : List Int) (hv : IntsAt .u8 σ h o bs) (hl : bs.length ≤ 1048576) (hb : ∀ b ∈ bs, 0 ≤ b ∧ b ≤ 255) :
    ACall Try.prog w0 32 [.slice (some ⟨h, o, none⟩) bs.length 1] σ fun r σ' => ∃ L t : Int, r = .tuple #[.int .i64 L, .int .i64 t] ∧ (-100 ≤ L ∧ L ≤ 100) ∧ (-100 ≤ t ∧ t ≤ 100) ∧ Sub σ σ' := by
  refine acall_go mixed Try.func32 rfl good32 fun pr => ?_
  simp -implicitDefEqProofs (disch := omega) only [List.any_cons, List.any_nil, Nat.reduceEqDiff, List.map_cons, List.map_nil, Option.map_some, Option.map_none, List.nil_append, ↓reduceIte, vcu, ↓vcd]
  refine (opened σ h o bs hv hl hb).mono ?_
  rintro r τ2 ⟨g, m, rfl, hs2, hR⟩
  simp -implicitDefEqProofs (disch := omega) only [List.any_cons, List.any_nil, Nat.reduceEqDiff, List.map_cons, List.map_nil, Option.map_some, Option.map_none, List.nil_append, ↓reduceIte, vcu, ↓vcd, opK_some]
  refine (load_draw σ τ2 g h o _ 0 hR (by omega)).mono ?_
  rintro r τ3 ⟨L, t, rfl, b1, b2, d⟩
  simp -implicitDefEqProofs (disch := omega) only [List.any_cons, List.any_nil, Nat.reduceEqDiff, List.map_cons, List.map_nil, Option.map_some, Option.map_none, List.nil_append, ↓reduceIte, vcu, ↓vcd, opK_some, List.getElem?_toArray, List.getElem?_cons_zero, List.getElem?_cons_succ]
  refine fin_two Try.results32 ⟨L, t, ?_, b1, b2, d.rd.sub⟩
  simp -implicitDefEqProofs (disch := omega) only [List.any_cons, List.any_nil, Nat.reduceEqDiff, List.map_cons, List.map_nil, Option.map_some, Option.map_none, List.nil_append, ↓reduceIte, vcu, ↓vcd]
set_option maxRecDepth 8000 in
theorem drawBusyParts_at (σ : AHeap) (h o : Nat) (bs : List Int) (hv : IntsAt .u8 σ h o bs) (hl : bs.length ≤ 1048576) (hb : ∀ b ∈ bs, 0 ≤ b ∧ b ≤ 255) :
    ACall Try.prog w0 35 [.slice (some ⟨h, o, none⟩) bs.length 1] σ fun r σ' => ∃ L t : Int, r = .tuple #[.int .i64 L, .int .i64 t] ∧ (-100 ≤ L ∧ L ≤ 100) ∧ (-100 ≤ t ∧ t ≤ 100) ∧ Sub σ σ' := by
  refine acall_go mixed Try.func35 rfl good35 fun pr => ?_
  simp -implicitDefEqProofs (disch := omega) only [List.any_cons, List.any_nil, Nat.reduceEqDiff, List.map_cons, List.map_nil, Option.map_some, Option.map_none, List.nil_append, ↓reduceIte, vcu, ↓vcd]
  refine (opened σ h o bs hv hl hb).mono ?_
  rintro r τ2 ⟨g, m, rfl, hs2, hR⟩
  simp -implicitDefEqProofs (disch := omega) only [List.any_cons, List.any_nil, Nat.reduceEqDiff, List.map_cons, List.map_nil, Option.map_some, Option.map_none, List.nil_append, ↓reduceIte, vcu, ↓vcd, opK_some]
  refine (load_draw σ τ2 g h o _ 0 hR (by omega)).mono ?_
  rintro r τ3 ⟨L, t, rfl, b1, b2, d⟩
  simp -implicitDefEqProofs (disch := omega) only [List.any_cons, List.any_nil, Nat.reduceEqDiff, List.map_cons, List.map_nil, Option.map_some, Option.map_none, List.nil_append, ↓reduceIte, vcu, ↓vcd, opK_some, List.getElem?_toArray, List.getElem?_cons_zero, List.getElem?_cons_succ]
  refine fin_two Try.results35 ⟨L, t, ?_, b1, b2, d.rd.sub⟩
  simp -implicitDefEqProofs (disch := omega) only [List.any_cons, List.any_nil, Nat.reduceEqDiff, List.map_cons, List.map_nil, Option.map_some, Option.map_none, List.nil_append, ↓reduceIte, vcu, ↓vcd]
set_option maxRecDepth 8000 in
theorem drawFracValid_at (σ : AHeap) (h o : Nat) (bs : List Int) (hv : IntsAt .u8 σ h o bs) (hl : bs.length ≤ 1048576) (hb : ∀ b ∈ bs, 0 ≤ b ∧ b ≤ 255) :
    ACall Try.prog w0 17 [.slice (some ⟨h, o, none⟩) bs.length 1] σ fun r σ' => ∃ x y : Int, r = .agg #[.int .i64 x, .int .i64 y] ∧ DF x y ∧ Sub σ σ' := by
  refine acall_goc mixed Try.func17 rfl goodc17 fun pr => ?_
  simp -implicitDefEqProofs (disch := omega) only [List.any_cons, List.any_nil, Nat.reduceEqDiff, List.map_cons, List.map_nil, Option.map_some, Option.map_none, List.nil_append, ↓reduceIte, vcu, ↓vcd]
  refine r_new ze24 fun c2 τ1 n2 s1 e2 => ?_
  replace e2 : τ1 c2 = some ⟨[.int .i64 0, .int .i64 0], false⟩ := e2
  simp -implicitDefEqProofs (disch := omega) only [List.any_cons, List.any_nil, Nat.reduceEqDiff, List.map_cons, List.map_nil, Option.map_some, Option.map_none, List.nil_append, ↓reduceIte, vcu, ↓vcd]
  refine (opened τ1 h o bs (hv.sub s1) hl hb).mono ?_
  rintro r τ2 ⟨g, m, rfl, hs2, hR⟩
  simp -implicitDefEqProofs (disch := omega) only [List.any_cons, List.any_nil, Nat.reduceEqDiff, List.map_cons, List.map_nil, Option.map_some, Option.map_none, List.nil_append, ↓reduceIte, vcu, ↓vcd, opK_some]
  refine (frac_draw τ1 τ2 g h o _ 0 2 hR (by omega) (by omega)).mono ?_
  rintro r τ3 ⟨x, y, p', rfl, hD, -, -, d⟩
  simp -implicitDefEqProofs (disch := omega) only [List.any_cons, List.any_nil, Nat.reduceEqDiff, List.map_cons, List.map_nil, Option.map_some, Option.map_none, List.nil_append, ↓reduceIte, vcu, ↓vcd, opK_some]
  refine r_sets (g := c2) (i := 0) (C := [.int .i64 0, .int .i64 0]) (by simp -implicitDefEqProofs (disch := omega) only [List.any_cons, List.any_nil, Nat.reduceEqDiff, List.map_cons, List.map_nil, Option.map_some, Option.map_none, List.nil_append, ↓reduceIte, vcu, ↓vcd]) (by simp -implicitDefEqProofs (disch := omega) only [List.any_cons, List.any_nil, Nat.reduceEqDiff, List.map_cons, List.map_nil, Option.map_some, Option.map_none, List.nil_append, ↓reduceIte, vcu, ↓vcd, co24]; rfl) (by simp -implicitDefEqProofs (disch := omega) only [List.any_cons, List.any_nil, Nat.reduceEqDiff, List.map_cons, List.map_nil, Option.map_some, Option.map_none, List.nil_append, ↓reduceIte, vcu, ↓vcd]; rfl) (by simp -implicitDefEqProofs (disch := omega) only [List.any_cons, List.any_nil, Nat.reduceEqDiff, List.map_cons, List.map_nil, Option.map_some, Option.map_none, List.nil_append, ↓reduceIte, vcu, ↓vcd]; exact Nat.zero_lt_succ _) (d.rd.sub _ _ e2) (by simp -implicitDefEqProofs (disch := omega) only [List.any_cons, List.any_nil, Nat.reduceEqDiff, List.map_cons, List.map_nil, Option.map_some, Option.map_none, List.nil_append, ↓reduceIte, vcu, ↓vcd]; exact Nat.le_refl _) fun τ4 k4 e4 => ?_
  replace e4 : τ4 c2 = some ⟨[.int .i64 x, .int .i64 y], false⟩ := e4
  have l4 : lds τ4 c2 0 2 = some [.int .i64 x, .int .i64 y] := lds_two (ld_of e4 rfl) (ld_of e4 rfl)
  simp -implicitDefEqProofs (disch := omega) only [List.any_cons, List.any_nil, Nat.reduceEqDiff, List.map_cons, List.map_nil, Option.map_some, Option.map_none, List.nil_append, ↓reduceIte, vcu, ↓vcd]
  refine fin_cell Try.results17 τ4 (Sub.refl _) (v := .agg #[.int .i64 x, .int .i64 y]) (by simp -implicitDefEqProofs (disch := omega) only [List.any_cons, List.any_nil, Nat.reduceEqDiff, List.map_cons, List.map_nil, Option.map_some, Option.map_none, List.nil_append, ↓reduceIte, vcu, ↓vcd, l4, co24]) ⟨x, y, rfl, hD, k4.sub (s1.trans d.rd.sub) n2⟩
set_option maxRecDepth 8000 in
theorem drawTrunksFor_at (σ : AHeap) (h o : Nat) (bs : List Int) (hv : IntsAt .u8 σ h o bs) (hl : bs.length ≤ 1048576) (hb : ∀ b ∈ bs, 0 ≤ b ∧ b ≤ 255) :
    ACall Try.prog w0 38 [.slice (some ⟨h, o, none⟩) bs.length 1] σ fun r σ' => ∃ L x y : Int, r = .tuple #[.int .i64 L, .agg #[.int .i64 x, .int .i64 y]] ∧ (-100 ≤ L ∧ L ≤ 100) ∧ DF x y ∧ Sub σ σ' := by
  refine acall_goc mixed Try.func38 rfl goodc38 fun pr => ?_
  simp -implicitDefEqProofs (disch := omega) only [List.any_cons, List.any_nil, Nat.reduceEqDiff, List.map_cons, List.map_nil, Option.map_some, Option.map_none, List.nil_append, ↓reduceIte, vcu, ↓vcd]
  refine r_new ze24 fun c3 τ1 n3 s1 e3 => ?_
  replace e3 : τ1 c3 = some ⟨[.int .i64 0, .int .i64 0], false⟩ := e3
  simp -implicitDefEqProofs (disch := omega) only [List.any_cons, List.any_nil, Nat.reduceEqDiff, List.map_cons, List.map_nil, Option.map_some, Option.map_none, List.nil_append, ↓reduceIte, vcu, ↓vcd]
  refine (opened τ1 h o bs (hv.sub s1) hl hb).mono ?_
  rintro r τ2 ⟨g, m, rfl, hs2, hR⟩
  simp -implicitDefEqProofs (disch := omega) only [List.any_cons, List.any_nil, Nat.reduceEqDiff, List.map_cons, List.map_nil, Option.map_some, Option.map_none, List.nil_append, ↓reduceIte, vcu, ↓vcd, opK_some]
  refine (load_draw τ1 τ2 g h o _ 0 hR (by omega)).mono ?_
  rintro r τ3 ⟨L, t, rfl, b1, b2, d⟩
  simp -implicitDefEqProofs (disch := omega) only [List.any_cons, List.any_nil, Nat.reduceEqDiff, List.map_cons, List.map_nil, Option.map_some, Option.map_none, List.nil_append, ↓reduceIte, vcu, ↓vcd, opK_some, List.getElem?_toArray, List.getElem?_cons_zero, List.getElem?_cons_succ]
  refine (frac_draw τ1 τ3 g h o _ _ 9 d.rd (by omega) (by omega)).mono ?_
  rintro r τ4 ⟨x, y, p', rfl, hD, -, -, d2⟩
  simp -implicitDefEqProofs (disch := omega) only [List.any_cons, List.any_nil, Nat.reduceEqDiff, List.map_cons, List.map_nil, Option.map_some, Option.map_none, List.nil_append, ↓reduceIte, vcu, ↓vcd, opK_some]
  refine r_sets (g := c3) (i := 0) (C := [.int .i64 0, .int .i64 0]) (by simp -implicitDefEqProofs (disch := omega) only [List.any_cons, List.any_nil, Nat.reduceEqDiff, List.map_cons, List.map_nil, Option.map_some, Option.map_none, List.nil_append, ↓reduceIte, vcu, ↓vcd]) (by simp -implicitDefEqProofs (disch := omega) only [List.any_cons, List.any_nil, Nat.reduceEqDiff, List.map_cons, List.map_nil, Option.map_some, Option.map_none, List.nil_append, ↓reduceIte, vcu, ↓vcd, co24]; rfl) (by simp -implicitDefEqProofs (disch := omega) only [List.any_cons, List.any_nil, Nat.reduceEqDiff, List.map_cons, List.map_nil, Option.map_some, Option.map_none, List.nil_append, ↓reduceIte, vcu, ↓vcd]; rfl) (by simp -implicitDefEqProofs (disch := omega) only [List.any_cons, List.any_nil, Nat.reduceEqDiff, List.map_cons, List.map_nil, Option.map_some, Option.map_none, List.nil_append, ↓reduceIte, vcu, ↓vcd]; exact Nat.zero_lt_succ _) (d2.rd.sub _ _ e3) (by simp -implicitDefEqProofs (disch := omega) only [List.any_cons, List.any_nil, Nat.reduceEqDiff, List.map_cons, List.map_nil, Option.map_some, Option.map_none, List.nil_append, ↓reduceIte, vcu, ↓vcd]; exact Nat.le_refl _) fun τ5 k5 e5 => ?_
  replace e5 : τ5 c3 = some ⟨[.int .i64 x, .int .i64 y], false⟩ := e5
  have l5 : lds τ5 c3 0 2 = some [.int .i64 x, .int .i64 y] := lds_two (ld_of e5 rfl) (ld_of e5 rfl)
  simp -implicitDefEqProofs (disch := omega) only [List.any_cons, List.any_nil, Nat.reduceEqDiff, List.map_cons, List.map_nil, Option.map_some, Option.map_none, List.nil_append, ↓reduceIte, vcu, ↓vcd]
  refine fin_tc7 Try.results38 τ5 (Sub.refl _) (v := .agg #[.int .i64 x, .int .i64 y]) (by simp -implicitDefEqProofs (disch := omega) only [List.any_cons, List.any_nil, Nat.reduceEqDiff, List.map_cons, List.map_nil, Option.map_some, Option.map_none, List.nil_append, ↓reduceIte, vcu, ↓vcd, l5, co24]) ⟨L, x, y, ?_, b1, hD, k5.sub (s1.trans d2.rd.sub) n3⟩
  simp -implicitDefEqProofs (disch := omega) only [List.any_cons, List.any_nil, Nat.reduceEqDiff, List.map_cons, List.map_nil, Option.map_some, Option.map_none, List.nil_append, ↓reduceIte, vcu, ↓vcd]
theorem fin_cc {P : Program} {fn : Func} {R : Value → AHeap → Prop} {a : AFrame} {σ : AHeap} {t u : Nat} {ty ty2 : TypeId} {v w : Value} (h : fn.results = #[.cell t ty, .cell u ty2]) (σ'' : AHeap) (hs : Sub σ'' σ) (hv : aload P σ ty (a t) = some v) (hw : aload P σ ty2 (a u) = some w) (hr : R (.tuple #[v, w]) σ'') : finC P fn R a σ :=
  ⟨[v, w], σ'', by simp [h, rvals, hv, hw], hs, hr⟩
def DF3 (x y : Int) : Prop := (-3 ≤ x ∧ x ≤ 120) ∧ (0 ≤ y ∧ y ≤ 3000000003)
set_option maxRecDepth 8000 in
theorem drawFracLess_at (σ : AHeap) (h o : Nat) (bs : List Int) (hv : IntsAt .u8 σ h o bs) (hl : bs.length ≤ 1048576) (hb : ∀ b ∈ bs, 0 ≤ b ∧ b ≤ 255) :
    ACall Try.prog w0 21 [.slice (some ⟨h, o, none⟩) bs.length 1] σ fun r σ' => ∃ x y z w : Int, r = .tuple #[.agg #[.int .i64 x, .int .i64 y], .agg #[.int .i64 z, .int .i64 w]] ∧ DF x y ∧ DF3 z w ∧ Sub σ σ' := by
  refine acall_goc mixed Try.func21 rfl goodc21 fun pr => ?_
  simp -implicitDefEqProofs (disch := omega) only [List.any_cons, List.any_nil, Nat.reduceEqDiff, List.map_cons, List.map_nil, Option.map_some, Option.map_none, List.nil_append, ↓reduceIte, vcu, ↓vcd]
  refine r_new ze24 fun c2 τ1 n2 s1 e2 => ?_
  replace e2 : τ1 c2 = some ⟨[.int .i64 0, .int .i64 0], false⟩ := e2
  refine r_new ze24 fun c3 τ2 n3 s2 e3 => ?_
  replace e3 : τ2 c3 = some ⟨[.int .i64 0, .int .i64 0], false⟩ := e3
  have h23 : c2 ≠ c3 := ne_of' n3 e2
  replace e2 := s2 _ _ e2
  have n3' := free_sub s1 n3
  simp -implicitDefEqProofs (disch := omega) only [List.any_cons, List.any_nil, Nat.reduceEqDiff, List.map_cons, List.map_nil, Option.map_some, Option.map_none, List.nil_append, ↓reduceIte, vcu, ↓vcd]
  refine (opened τ2 h o bs ((hv.sub s1).sub s2) hl hb).mono ?_
  rintro r τ3 ⟨g, m, rfl, hs3, hR⟩
  simp -implicitDefEqProofs (disch := omega) only [List.any_cons, List.any_nil, Nat.reduceEqDiff, List.map_cons, List.map_nil, Option.map_some, Option.map_none, List.nil_append, ↓reduceIte, vcu, ↓vcd, opK_some]
  refine (frac_draw τ2 τ3 g h o _ 0 9 hR (by omega) (by omega)).mono ?_
  rintro r τ4 ⟨x, y, p1, rfl, hD, q1, q2, d⟩
  simp -implicitDefEqProofs (disch := omega) only [List.any_cons, List.any_nil, Nat.reduceEqDiff, List.map_cons, List.map_nil, Option.map_some, Option.map_none, List.nil_append, ↓reduceIte, vcu, ↓vcd, opK_some]
  refine r_local (cs := #[.int .i64 x, .int .i64 y]) ze24 (by decide) (by simp -implicitDefEqProofs (disch := omega) only [List.any_cons, List.any_nil, Nat.reduceEqDiff, List.map_cons, List.map_nil, Option.map_some, Option.map_none, List.nil_append, ↓reduceIte, vcu, ↓vcd]) (by rw [co24]; rfl) rfl rfl (Nat.zero_lt_succ _) fun c5 τ5 n5 s5 e5 => ?_
  replace e5 : τ5 c5 = some ⟨[.int .i64 x, .int .i64 y], false⟩ := e5
  have f2 := d.rd.sub _ _ e2
  have f3 := d.rd.sub _ _ e3
  have h25 : c2 ≠ c5 := ne_of' n5 f2
  have h35 : c3 ≠ c5 := ne_of' n5 f3
  have hg5 : c5 ≠ g := ne_of n5 d.rd.at_
  have hg2 : c2 ≠ g := ne_of' hR.free e2
  have hg3 : c3 ≠ g := ne_of' hR.free e3
  have d5 := d.new s5
  have n5' : τ2 c5 = none := (d.fresh n5).1 |> fun hh => free_sub hs3 hh
  clear s5 n5 f2 f3 d
  simp -implicitDefEqProofs (disch := omega) only [List.any_cons, List.any_nil, Nat.reduceEqDiff, List.map_cons, List.map_nil, Option.map_some, Option.map_none, List.nil_append, ↓reduceIte, vcu, ↓vcd]
  refine (pick_at τ2 τ5 g h o _ p1 4 d5.rd (by omega) (by omega)).mono ?_
  rintro r τ6 ⟨z, rfl, z1, z2, hR6, hK6⟩
  replace e5 := hK6.at e5 hg5
  clear d5
  have s26 := hR6.sub
  have hD' := hD
  obtain ⟨⟨x1, x2⟩, y1, y2⟩ := hD'
  by_cases hz : z = 0
  · subst hz
    have e5' : (τ6.upd c2 none) c5 = some ⟨[.int .i64 x, .int .i64 y], false⟩ := by rw [AHeap.upd_ne _ _ h25.symm]; exact e5
    have l0 : ld (τ6.upd c2 none) c5 (0 + 0) = some (.int .i64 x) := ld_of e5' rfl
    have l1 : ld (τ6.upd c2 none) c5 (0 + 1) = some (.int .i64 y) := ld_of e5' rfl
    have ll : lds (τ6.upd c2 none) c5 0 2 = some [.int .i64 x, .int .i64 y] := lds_two (ld_of e5' rfl) (ld_of e5' rfl)
    have fin : ∀ (τ7 τ8 : AHeap), Kept c2 τ6 τ7 → τ7 c2 = some ⟨[.int .i64 x, .int .i64 y], false⟩ → Kept c3 τ7 τ8 → Sub σ τ8 ∧ τ8 c2 = some ⟨[.int .i64 x, .int .i64 y], false⟩ := fun τ7 τ8 k7 e7 k8 =>
      ⟨k8.sub (k7.sub ((s1.trans s2).trans s26) n2) n3', k8.at e7 h23⟩
    have f3 := s26 _ _ e3
    have f2 := s26 _ _ e2
    simp -implicitDefEqProofs (disch := omega) only [List.any_cons, List.any_nil, Nat.reduceEqDiff, List.map_cons, List.map_nil, Option.map_some, Option.map_none, List.nil_append, ↓reduceIte, vcu, ↓vcd, opK_some, decide_true]
    refine region_tree mixed (quiets [0, 1, 2, 3, 4, 5, 6] (.two 7 (.one 8 (.one 9 .stop)) 8 (.one 7 (.one 9 .stop)))) [([0, 1, 2, 3, 4, 5, 6], Sub (τ6.upd c2 none))] (by kernel_rfl) (by kernel_rfl) (fun p hp => by simp only [List.mem_singleton] at hp; subst hp; exact sub_erase _ _) ?_
    refine tree_quiets (τ6.upd c2 none) _ _ _ sf1 (by kernel_rfl) (by kernel_rfl) ?_
    simp -implicitDefEqProofs (disch := omega) only [List.any_cons, List.any_nil, Nat.reduceEqDiff, List.map_cons, List.map_nil, Option.map_some, Option.map_none, List.nil_append, ↓reduceIte, vcu, ↓vcd, pickOps_nil, pickOps_cons, pickO_some, List.getElem?_cons_succ, List.getElem?_cons_zero, l0, l1, ll, co24]
    refine tree_two rfl rfl ?_ ?_
    · rw [r_build]
      refine ⟨(_, #[.int .i64 (3 * x), .int .i64 (3 * y)]), ⟨ze24, by simp -implicitDefEqProofs (disch := omega) only [List.any_cons, List.any_nil, Nat.reduceEqDiff, List.map_cons, List.map_nil, Option.map_some, Option.map_none, List.nil_append, ↓reduceIte, vcu, ↓vcd]; kernel_rfl⟩, ?_⟩
      simp -implicitDefEqProofs (disch := omega) only [List.any_cons, List.any_nil, Nat.reduceEqDiff, List.map_cons, List.map_nil, Option.map_some, Option.map_none, List.nil_append, ↓reduceIte, vcu, ↓vcd]
      refine ⟨keep_of rfl (fun p hp => by simp only [List.mem_singleton] at hp; subst hp; exact .inr (sub_erase _ _)), tree_one rfl ?_⟩
      refine r_sets (g := c2) (i := 0) (C := [.int .i64 0, .int .i64 0]) (by simp -implicitDefEqProofs (disch := omega) only [List.any_cons, List.any_nil, Nat.reduceEqDiff, List.map_cons, List.map_nil, Option.map_some, Option.map_none, List.nil_append, ↓reduceIte, vcu, ↓vcd]) (by simp -implicitDefEqProofs (disch := omega) only [List.any_cons, List.any_nil, Nat.reduceEqDiff, List.map_cons, List.map_nil, Option.map_some, Option.map_none, List.nil_append, ↓reduceIte, vcu, ↓vcd, co24]; rfl) (by simp -implicitDefEqProofs (disch := omega) only [List.any_cons, List.any_nil, Nat.reduceEqDiff, List.map_cons, List.map_nil, Option.map_some, Option.map_none, List.nil_append, ↓reduceIte, vcu, ↓vcd]; rfl) (by simp -implicitDefEqProofs (disch := omega) only [List.any_cons, List.any_nil, Nat.reduceEqDiff, List.map_cons, List.map_nil, Option.map_some, Option.map_none, List.nil_append, ↓reduceIte, vcu, ↓vcd]; exact Nat.zero_lt_succ _) f2 (by simp -implicitDefEqProofs (disch := omega) only [List.any_cons, List.any_nil, Nat.reduceEqDiff, List.map_cons, List.map_nil, Option.map_some, Option.map_none, List.nil_append, ↓reduceIte, vcu, ↓vcd]; exact Nat.le_refl _) fun τ7 k7 e7 => ?_
      simp -implicitDefEqProofs (disch := omega) only [List.any_cons, List.any_nil, Nat.reduceEqDiff, List.map_cons, List.map_nil, Option.map_some, Option.map_none, List.nil_append, ↓reduceIte, vcu, ↓vcd]
      refine ⟨keep_of rfl (fun p hp => by simp only [List.mem_singleton] at hp; subst hp; exact .inr (less_keptY k7)), tree_one rfl ?_⟩
      refine r_sets (g := c3) (i := 0) (C := [.int .i64 0, .int .i64 0]) (by simp -implicitDefEqProofs (disch := omega) only [List.any_cons, List.any_nil, Nat.reduceEqDiff, List.map_cons, List.map_nil, Option.map_some, Option.map_none, List.nil_append, ↓reduceIte, vcu, ↓vcd]) (by simp -implicitDefEqProofs (disch := omega) only [List.any_cons, List.any_nil, Nat.reduceEqDiff, List.map_cons, List.map_nil, Option.map_some, Option.map_none, List.nil_append, ↓reduceIte, vcu, ↓vcd, co24]; rfl) (by simp -implicitDefEqProofs (disch := omega) only [List.any_cons, List.any_nil, Nat.reduceEqDiff, List.map_cons, List.map_nil, Option.map_some, Option.map_none, List.nil_append, ↓reduceIte, vcu, ↓vcd]; rfl) (by simp -implicitDefEqProofs (disch := omega) only [List.any_cons, List.any_nil, Nat.reduceEqDiff, List.map_cons, List.map_nil, Option.map_some, Option.map_none, List.nil_append, ↓reduceIte, vcu, ↓vcd]; exact Nat.zero_lt_succ _) (k7.at f3 h23.symm) (by simp -implicitDefEqProofs (disch := omega) only [List.any_cons, List.any_nil, Nat.reduceEqDiff, List.map_cons, List.map_nil, Option.map_some, Option.map_none, List.nil_append, ↓reduceIte, vcu, ↓vcd]; exact Nat.le_refl _) fun τ8 k8 e8 => ?_
      obtain ⟨w1, w2⟩ := fin τ7 τ8 k7 e7 k8
      replace e8 : τ8 c3 = some ⟨[.int .i64 (3 * x), .int .i64 (3 * y)], false⟩ := e8
      have m2 : lds τ8 c2 0 2 = some [.int .i64 x, .int .i64 y] := lds_two (ld_of w2 rfl) (ld_of w2 rfl)
      have m3 : lds τ8 c3 0 2 = some [.int .i64 (3 * x), .int .i64 (3 * y)] := lds_two (ld_of e8 rfl) (ld_of e8 rfl)
      simp -implicitDefEqProofs (disch := omega) only [List.any_cons, List.any_nil, Nat.reduceEqDiff, List.map_cons, List.map_nil, Option.map_some, Option.map_none, List.nil_append, ↓reduceIte, vcu, ↓vcd]
      refine ⟨keep_of rfl (fun p hp => by simp only [List.mem_singleton] at hp; subst hp; exact .inl (by kernel_rfl)), tree_stop ?_⟩
      simp -implicitDefEqProofs (disch := omega) only [List.any_cons, List.any_nil, Nat.reduceEqDiff, List.map_cons, List.map_nil, Option.map_some, Option.map_none, List.nil_append, ↓reduceIte, vcu, ↓vcd]
      refine fin_cc Try.results21 τ8 (Sub.refl _) (v := .agg #[.int .i64 x, .int .i64 y]) (w := .agg #[.int .i64 (3 * x), .int .i64 (3 * y)]) (by simp -implicitDefEqProofs (disch := omega) only [List.any_cons, List.any_nil, Nat.reduceEqDiff, List.map_cons, List.map_nil, Option.map_some, Option.map_none, List.nil_append, ↓reduceIte, vcu, ↓vcd, m2, co24]) (by simp -implicitDefEqProofs (disch := omega) only [List.any_cons, List.any_nil, Nat.reduceEqDiff, List.map_cons, List.map_nil, Option.map_some, Option.map_none, List.nil_append, ↓reduceIte, vcu, ↓vcd, m3, co24]) ⟨x, y, 3 * x, 3 * y, rfl, hD, ⟨by omega, by omega⟩, w1⟩
    · refine r_sets (g := c2) (i := 0) (C := [.int .i64 0, .int .i64 0]) (by simp -implicitDefEqProofs (disch := omega) only [List.any_cons, List.any_nil, Nat.reduceEqDiff, List.map_cons, List.map_nil, Option.map_some, Option.map_none, List.nil_append, ↓reduceIte, vcu, ↓vcd]) (by simp -implicitDefEqProofs (disch := omega) only [List.any_cons, List.any_nil, Nat.reduceEqDiff, List.map_cons, List.map_nil, Option.map_some, Option.map_none, List.nil_append, ↓reduceIte, vcu, ↓vcd, co24]; rfl) (by simp -implicitDefEqProofs (disch := omega) only [List.any_cons, List.any_nil, Nat.reduceEqDiff, List.map_cons, List.map_nil, Option.map_some, Option.map_none, List.nil_append, ↓reduceIte, vcu, ↓vcd]; rfl) (by simp -implicitDefEqProofs (disch := omega) only [List.any_cons, List.any_nil, Nat.reduceEqDiff, List.map_cons, List.map_nil, Option.map_some, Option.map_none, List.nil_append, ↓reduceIte, vcu, ↓vcd]; exact Nat.zero_lt_succ _) f2 (by simp -implicitDefEqProofs (disch := omega) only [List.any_cons, List.any_nil, Nat.reduceEqDiff, List.map_cons, List.map_nil, Option.map_some, Option.map_none, List.nil_append, ↓reduceIte, vcu, ↓vcd]; exact Nat.le_refl _) fun τ7 k7 e7 => ?_
      simp -implicitDefEqProofs (disch := omega) only [List.any_cons, List.any_nil, Nat.reduceEqDiff, List.map_cons, List.map_nil, Option.map_some, Option.map_none, List.nil_append, ↓reduceIte, vcu, ↓vcd]
      refine ⟨keep_of rfl (fun p hp => by simp only [List.mem_singleton] at hp; subst hp; exact .inr (less_keptY k7)), tree_one rfl ?_⟩
      rw [r_build]
      refine ⟨(_, #[.int .i64 (3 * x), .int .i64 (3 * y)]), ⟨ze24, by simp -implicitDefEqProofs (disch := omega) only [List.any_cons, List.any_nil, Nat.reduceEqDiff, List.map_cons, List.map_nil, Option.map_some, Option.map_none, List.nil_append, ↓reduceIte, vcu, ↓vcd]; kernel_rfl⟩, ?_⟩
      simp -implicitDefEqProofs (disch := omega) only [List.any_cons, List.any_nil, Nat.reduceEqDiff, List.map_cons, List.map_nil, Option.map_some, Option.map_none, List.nil_append, ↓reduceIte, vcu, ↓vcd]
      refine ⟨keep_of rfl (fun p hp => by simp only [List.mem_singleton] at hp; subst hp; exact .inr (less_keptY k7)), tree_one rfl ?_⟩
      refine r_sets (g := c3) (i := 0) (C := [.int .i64 0, .int .i64 0]) (by simp -implicitDefEqProofs (disch := omega) only [List.any_cons, List.any_nil, Nat.reduceEqDiff, List.map_cons, List.map_nil, Option.map_some, Option.map_none, List.nil_append, ↓reduceIte, vcu, ↓vcd]) (by simp -implicitDefEqProofs (disch := omega) only [List.any_cons, List.any_nil, Nat.reduceEqDiff, List.map_cons, List.map_nil, Option.map_some, Option.map_none, List.nil_append, ↓reduceIte, vcu, ↓vcd, co24]; rfl) (by simp -implicitDefEqProofs (disch := omega) only [List.any_cons, List.any_nil, Nat.reduceEqDiff, List.map_cons, List.map_nil, Option.map_some, Option.map_none, List.nil_append, ↓reduceIte, vcu, ↓vcd]; rfl) (by simp -implicitDefEqProofs (disch := omega) only [List.any_cons, List.any_nil, Nat.reduceEqDiff, List.map_cons, List.map_nil, Option.map_some, Option.map_none, List.nil_append, ↓reduceIte, vcu, ↓vcd]; exact Nat.zero_lt_succ _) (k7.at f3 h23.symm) (by simp -implicitDefEqProofs (disch := omega) only [List.any_cons, List.any_nil, Nat.reduceEqDiff, List.map_cons, List.map_nil, Option.map_some, Option.map_none, List.nil_append, ↓reduceIte, vcu, ↓vcd]; exact Nat.le_refl _) fun τ8 k8 e8 => ?_
      obtain ⟨w1, w2⟩ := fin τ7 τ8 k7 e7 k8
      replace e8 : τ8 c3 = some ⟨[.int .i64 (3 * x), .int .i64 (3 * y)], false⟩ := e8
      have m2 : lds τ8 c2 0 2 = some [.int .i64 x, .int .i64 y] := lds_two (ld_of w2 rfl) (ld_of w2 rfl)
      have m3 : lds τ8 c3 0 2 = some [.int .i64 (3 * x), .int .i64 (3 * y)] := lds_two (ld_of e8 rfl) (ld_of e8 rfl)
      simp -implicitDefEqProofs (disch := omega) only [List.any_cons, List.any_nil, Nat.reduceEqDiff, List.map_cons, List.map_nil, Option.map_some, Option.map_none, List.nil_append, ↓reduceIte, vcu, ↓vcd]
      refine ⟨keep_of rfl (fun p hp => by simp only [List.mem_singleton] at hp; subst hp; exact .inl (by kernel_rfl)), tree_stop ?_⟩
      simp -implicitDefEqProofs (disch := omega) only [List.any_cons, List.any_nil, Nat.reduceEqDiff, List.map_cons, List.map_nil, Option.map_some, Option.map_none, List.nil_append, ↓reduceIte, vcu, ↓vcd]
      refine fin_cc Try.results21 τ8 (Sub.refl _) (v := .agg #[.int .i64 x, .int .i64 y]) (w := .agg #[.int .i64 (3 * x), .int .i64 (3 * y)]) (by simp -implicitDefEqProofs (disch := omega) only [List.any_cons, List.any_nil, Nat.reduceEqDiff, List.map_cons, List.map_nil, Option.map_some, Option.map_none, List.nil_append, ↓reduceIte, vcu, ↓vcd, m2, co24]) (by simp -implicitDefEqProofs (disch := omega) only [List.any_cons, List.any_nil, Nat.reduceEqDiff, List.map_cons, List.map_nil, Option.map_some, Option.map_none, List.nil_append, ↓reduceIte, vcu, ↓vcd, m3, co24]) ⟨x, y, 3 * x, 3 * y, rfl, hD, ⟨by omega, by omega⟩, w1⟩
  · have e5' : (τ6.upd g none) c5 = some ⟨[.int .i64 x, .int .i64 y], false⟩ := by rw [AHeap.upd_ne _ _ hg5]; exact e5
    have ll : lds (τ6.upd g none) c5 0 2 = some [.int .i64 x, .int .i64 y] := lds_two (ld_of e5' rfl) (ld_of e5' rfl)
    simp -implicitDefEqProofs (disch := omega) only [List.any_cons, List.any_nil, Nat.reduceEqDiff, List.map_cons, List.map_nil, Option.map_some, Option.map_none, List.nil_append, ↓reduceIte, vcu, ↓vcd, opK_some, hz]
    refine region_tree mixed (quiets [1] (quiets [0] (.one 2 (.one 3 (.one 4 .stop))))) [([0], Sub (τ6.upd g none))] (by kernel_rfl) (by kernel_rfl) (fun p hp => by simp only [List.mem_singleton] at hp; subst hp; exact sub_erase _ _) ?_
    refine tree_quiets (fun _ => none) _ _ _ (fun _ _ _ _ => fun x ob e => by cases e) (by kernel_rfl) (by kernel_rfl) ?_
    simp -implicitDefEqProofs (disch := omega) only [List.any_cons, List.any_nil, Nat.reduceEqDiff, List.map_cons, List.map_nil, Option.map_some, Option.map_none, List.nil_append, ↓reduceIte, vcu, ↓vcd, pickOps_nil, pickOps_cons, pickO_some, List.getElem?_cons_succ, List.getElem?_cons_zero]
    refine tree_quiets (τ6.upd g none) _ _ _ sf1 (by kernel_rfl) (by kernel_rfl) ?_
    simp -implicitDefEqProofs (disch := omega) only [List.any_cons, List.any_nil, Nat.reduceEqDiff, List.map_cons, List.map_nil, Option.map_some, Option.map_none, List.nil_append, ↓reduceIte, vcu, ↓vcd, pickOps_nil, pickOps_cons, pickO_some, List.getElem?_cons_succ, List.getElem?_cons_zero, ll, co24]
    refine tree_one rfl ?_
    simp -implicitDefEqProofs (disch := omega) only [List.any_cons, List.any_nil, Nat.reduceEqDiff, List.map_cons, List.map_nil, Option.map_some, Option.map_none, List.nil_append, ↓reduceIte, vcu, ↓vcd]
    refine (frac_draw τ2 τ6 g h o _ _ 9 hR6 (by omega) (by omega)).mono ?_
    rintro r τ7 ⟨u, v, p2, rfl, hD2, -, -, d7⟩
    have f2 := d7.rd.sub _ _ e2
    have f3 := d7.rd.sub _ _ e3
    obtain ⟨⟨u1, u2⟩, v1, v2⟩ := hD2
    simp -implicitDefEqProofs (disch := omega) only [List.any_cons, List.any_nil, Nat.reduceEqDiff, List.map_cons, List.map_nil, Option.map_some, Option.map_none, List.nil_append, ↓reduceIte, vcu, ↓vcd, opK_some]
    refine ⟨keep_of rfl (fun p hp => by simp only [List.mem_singleton] at hp; subst hp; exact .inr (less_keptY d7.kp)), tree_one rfl ?_⟩
    refine r_sets (g := c2) (i := 0) (C := [.int .i64 0, .int .i64 0]) (by simp -implicitDefEqProofs (disch := omega) only [List.any_cons, List.any_nil, Nat.reduceEqDiff, List.map_cons, List.map_nil, Option.map_some, Option.map_none, List.nil_append, ↓reduceIte, vcu, ↓vcd]) (by simp -implicitDefEqProofs (disch := omega) only [List.any_cons, List.any_nil, Nat.reduceEqDiff, List.map_cons, List.map_nil, Option.map_some, Option.map_none, List.nil_append, ↓reduceIte, vcu, ↓vcd, co24]; rfl) (by simp -implicitDefEqProofs (disch := omega) only [List.any_cons, List.any_nil, Nat.reduceEqDiff, List.map_cons, List.map_nil, Option.map_some, Option.map_none, List.nil_append, ↓reduceIte, vcu, ↓vcd]; rfl) (by simp -implicitDefEqProofs (disch := omega) only [List.any_cons, List.any_nil, Nat.reduceEqDiff, List.map_cons, List.map_nil, Option.map_some, Option.map_none, List.nil_append, ↓reduceIte, vcu, ↓vcd]; exact Nat.zero_lt_succ _) f2 (by simp -implicitDefEqProofs (disch := omega) only [List.any_cons, List.any_nil, Nat.reduceEqDiff, List.map_cons, List.map_nil, Option.map_some, Option.map_none, List.nil_append, ↓reduceIte, vcu, ↓vcd]; exact Nat.le_refl _) fun τ8 k8 e8 => ?_
    simp -implicitDefEqProofs (disch := omega) only [List.any_cons, List.any_nil, Nat.reduceEqDiff, List.map_cons, List.map_nil, Option.map_some, Option.map_none, List.nil_append, ↓reduceIte, vcu, ↓vcd]
    refine ⟨keep_of rfl (fun p hp => by simp only [List.mem_singleton] at hp; subst hp; exact .inl (by kernel_rfl)), tree_one rfl ?_⟩
    refine r_sets (g := c3) (i := 0) (C := [.int .i64 0, .int .i64 0]) (by simp -implicitDefEqProofs (disch := omega) only [List.any_cons, List.any_nil, Nat.reduceEqDiff, List.map_cons, List.map_nil, Option.map_some, Option.map_none, List.nil_append, ↓reduceIte, vcu, ↓vcd]) (by simp -implicitDefEqProofs (disch := omega) only [List.any_cons, List.any_nil, Nat.reduceEqDiff, List.map_cons, List.map_nil, Option.map_some, Option.map_none, List.nil_append, ↓reduceIte, vcu, ↓vcd, co24]; rfl) (by simp -implicitDefEqProofs (disch := omega) only [List.any_cons, List.any_nil, Nat.reduceEqDiff, List.map_cons, List.map_nil, Option.map_some, Option.map_none, List.nil_append, ↓reduceIte, vcu, ↓vcd]; rfl) (by simp -implicitDefEqProofs (disch := omega) only [List.any_cons, List.any_nil, Nat.reduceEqDiff, List.map_cons, List.map_nil, Option.map_some, Option.map_none, List.nil_append, ↓reduceIte, vcu, ↓vcd]; exact Nat.zero_lt_succ _) (k8.at f3 h23.symm) (by simp -implicitDefEqProofs (disch := omega) only [List.any_cons, List.any_nil, Nat.reduceEqDiff, List.map_cons, List.map_nil, Option.map_some, Option.map_none, List.nil_append, ↓reduceIte, vcu, ↓vcd]; exact Nat.le_refl _) fun τ9 k9 e9 => ?_
    replace e9 : τ9 c3 = some ⟨[.int .i64 u, .int .i64 v], false⟩ := e9
    have e8' : τ9 c2 = some ⟨[.int .i64 x, .int .i64 y], false⟩ := k9.at e8 h23
    have w1 : Sub σ τ9 := k9.sub (k8.sub ((s1.trans s2).trans d7.rd.sub) n2) n3'
    have m2 : lds τ9 c2 0 2 = some [.int .i64 x, .int .i64 y] := lds_two (ld_of e8' rfl) (ld_of e8' rfl)
    have m3 : lds τ9 c3 0 2 = some [.int .i64 u, .int .i64 v] := lds_two (ld_of e9 rfl) (ld_of e9 rfl)
    simp -implicitDefEqProofs (disch := omega) only [List.any_cons, List.any_nil, Nat.reduceEqDiff, List.map_cons, List.map_nil, Option.map_some, Option.map_none, List.nil_append, ↓reduceIte, vcu, ↓vcd]
    refine ⟨keep_of rfl (fun p hp => by simp only [List.mem_singleton] at hp; subst hp; exact .inl (by kernel_rfl)), tree_stop ?_⟩
    simp -implicitDefEqProofs (disch := omega) only [List.any_cons, List.any_nil, Nat.reduceEqDiff, List.map_cons, List.map_nil, Option.map_some, Option.map_none, List.nil_append, ↓reduceIte, vcu, ↓vcd]
    refine fin_cc Try.results21 τ9 (Sub.refl _) (v := .agg #[.int .i64 x, .int .i64 y]) (w := .agg #[.int .i64 u, .int .i64 v]) (by simp -implicitDefEqProofs (disch := omega) only [List.any_cons, List.any_nil, Nat.reduceEqDiff, List.map_cons, List.map_nil, Option.map_some, Option.map_none, List.nil_append, ↓reduceIte, vcu, ↓vcd, m2, co24]) (by simp -implicitDefEqProofs (disch := omega) only [List.any_cons, List.any_nil, Nat.reduceEqDiff, List.map_cons, List.map_nil, Option.map_some, Option.map_none, List.nil_append, ↓reduceIte, vcu, ↓vcd, m3, co24]) ⟨x, y, u, v, rfl, hD, ⟨by omega, by omega⟩, w1⟩
end Go.Proofs.Ytkepicmefpcgaaa

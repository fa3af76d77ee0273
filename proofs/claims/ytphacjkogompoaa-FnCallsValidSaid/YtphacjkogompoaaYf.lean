/- What the laws of three stages draw. -/
import Derived.Test.YtphacjkogompoaaYe
import Derived.Test.YtphacjkogompoaaYb
set_option linter.unusedSimpArgs false
set_option linter.unusedVariables false
namespace Go.Proofs.Ytphacjkogompoaa
open Go Go.Abs Go.RowKit Go.Clos
variable {w0 : World}

theorem Rd.less4 {β σ : AHeap} {g h o : Nat} {bs : List Int} {p : Int} (hr : Rd β σ g h o bs p) : Sub β (σ.upd g none) := fun k ob e => by
  have hk : k ≠ g := by rintro rfl; rw [hr.free] at e; cases e
  rw [AHeap.upd_ne _ _ hk]; exact hr.sub k ob e
theorem Rd.above4 {β σ : AHeap} {g h o : Nat} {bs : List Int} {p : Int} (hr : Rd β σ g h o bs p) : Rd (σ.upd g none) σ g h o bs p :=
  ⟨hr.at_, sub_erase σ g, AHeap.upd_same _ _ _, hr.ints.sub hr.less4, hr.len, hr.byte⟩
theorem mvL_len14 {s : Sp} {cs : List Cl} {i o : Int} : (mvL s cs i o).length ≤ 13 := by
  by_cases h : CV s cs ∧ Enough s
  · have := h.1.len
    by_cases h2 : mvOk s cs i o
    · rw [mvL_ok h2, moveL_length]; omega
    · rw [mvL_same h h2]; omega
  · rw [mvL_no h]; simp
theorem drawSV_at (σ : AHeap) (h o : Nat) (bs : List Int) (hv : IntsAt .u8 σ h o bs) (hl : bs.length ≤ 1048576) (hb : ∀ b ∈ bs, 0 ≤ b ∧ b ≤ 255) :
    ACall Try.prog w0 23 [.slice (some ⟨h, o, none⟩) bs.length 1] σ fun r σ' => ∃ s : Sp, r = .agg #[.int .i64 s.O, .int .i64 s.E, .int .i64 s.M] ∧ Drawn s ∧ Sub σ σ' := by
  refine acall_goc mixed Try.func23 rfl goodc23 fun pr => ?_
  simp -implicitDefEqProofs (disch := omega) only [List.any_cons, List.any_nil, Nat.reduceEqDiff, List.map_cons, List.map_nil, Option.map_some, Option.map_none, List.nil_append, ↓reduceIte, vcu, ↓vcd]
  refine r_new ze24 fun c2 τ1 n2 s1 e2 => ?_
  replace e2 : τ1 c2 = some ⟨[.int .i64 0, .int .i64 0, .int .i64 0], false⟩ := e2
  simp -implicitDefEqProofs (disch := omega) only [List.any_cons, List.any_nil, Nat.reduceEqDiff, List.map_cons, List.map_nil, Option.map_some, Option.map_none, List.nil_append, ↓reduceIte, vcu, ↓vcd]
  refine (opened τ1 h o bs (hv.sub s1) hl hb).mono ?_
  rintro r τ2 ⟨g, m, rfl, hs2, hR⟩
  simp -implicitDefEqProofs (disch := omega) only [List.any_cons, List.any_nil, Nat.reduceEqDiff, List.map_cons, List.map_nil, Option.map_some, Option.map_none, List.nil_append, ↓reduceIte, vcu, ↓vcd, opK_some]
  refine (shape_draw τ1 τ2 g h o _ 0 2 hR (by omega) (by omega)).mono ?_
  rintro _ τ3 ⟨s, p', rfl, hD, -, -, d⟩
  simp -implicitDefEqProofs (disch := omega) only [List.any_cons, List.any_nil, Nat.reduceEqDiff, List.map_cons, List.map_nil, Option.map_some, Option.map_none, List.nil_append, ↓reduceIte, vcu, ↓vcd, opK_some]
  refine r_sets (g := c2) (i := 0) (C := [.int .i64 0, .int .i64 0, .int .i64 0]) (by simp -implicitDefEqProofs (disch := omega) only [List.any_cons, List.any_nil, Nat.reduceEqDiff, List.map_cons, List.map_nil, Option.map_some, Option.map_none, List.nil_append, ↓reduceIte, vcu, ↓vcd]) (by simp -implicitDefEqProofs (disch := omega) only [List.any_cons, List.any_nil, Nat.reduceEqDiff, List.map_cons, List.map_nil, Option.map_some, Option.map_none, List.nil_append, ↓reduceIte, vcu, ↓vcd, co24]; rfl) (by simp -implicitDefEqProofs (disch := omega) only [List.any_cons, List.any_nil, Nat.reduceEqDiff, List.map_cons, List.map_nil, Option.map_some, Option.map_none, List.nil_append, ↓reduceIte, vcu, ↓vcd]; rfl) (by simp -implicitDefEqProofs (disch := omega) only [List.any_cons, List.any_nil, Nat.reduceEqDiff, List.map_cons, List.map_nil, Option.map_some, Option.map_none, List.nil_append, ↓reduceIte, vcu, ↓vcd]; exact Nat.zero_lt_succ _) (d.rd.sub _ _ e2) (by simp -implicitDefEqProofs (disch := omega) only [List.any_cons, List.any_nil, Nat.reduceEqDiff, List.map_cons, List.map_nil, Option.map_some, Option.map_none, List.nil_append, ↓reduceIte, vcu, ↓vcd]; exact Nat.le_refl _) fun τ4 k4 e4 => ?_
  replace e4 : τ4 c2 = some ⟨[.int .i64 s.O, .int .i64 s.E, .int .i64 s.M], false⟩ := e4
  have l4 : lds τ4 c2 0 3 = some [.int .i64 s.O, .int .i64 s.E, .int .i64 s.M] := lds_three (ld_of e4 rfl) (ld_of e4 rfl) (ld_of e4 rfl)
  simp -implicitDefEqProofs (disch := omega) only [List.any_cons, List.any_nil, Nat.reduceEqDiff, List.map_cons, List.map_nil, Option.map_some, Option.map_none, List.nil_append, ↓reduceIte, vcu, ↓vcd]
  exact fin_cell Try.results23 τ4 (Sub.refl _) (v := .agg #[.int .i64 s.O, .int .i64 s.E, .int .i64 s.M]) (by simp -implicitDefEqProofs (disch := omega) only [List.any_cons, List.any_nil, Nat.reduceEqDiff, List.map_cons, List.map_nil, Option.map_some, Option.map_none, List.nil_append, ↓reduceIte, vcu, ↓vcd, l4, co24]) ⟨s, rfl, hD, k4.sub (s1.trans d.rd.sub) n2⟩
theorem drawSt_at (σ : AHeap) (h o : Nat) (bs : List Int) (hv : IntsAt .u8 σ h o bs) (hl : bs.length ≤ 1048576) (hb : ∀ b ∈ bs, 0 ≤ b ∧ b ≤ 255) :
    ACall Try.prog w0 45 [.slice (some ⟨h, o, none⟩) bs.length 1] σ fun r σ' => ∃ s : Sp, r = .agg #[.int .i64 s.O, .int .i64 s.E, .int .i64 s.M] ∧ Drawn s ∧ Sub σ σ' := by
  refine acall_goc mixed Try.func45 rfl goodc45 fun pr => ?_
  simp -implicitDefEqProofs (disch := omega) only [List.any_cons, List.any_nil, Nat.reduceEqDiff, List.map_cons, List.map_nil, Option.map_some, Option.map_none, List.nil_append, ↓reduceIte, vcu, ↓vcd]
  refine r_new ze24 fun c2 τ1 n2 s1 e2 => ?_
  replace e2 : τ1 c2 = some ⟨[.int .i64 0, .int .i64 0, .int .i64 0], false⟩ := e2
  simp -implicitDefEqProofs (disch := omega) only [List.any_cons, List.any_nil, Nat.reduceEqDiff, List.map_cons, List.map_nil, Option.map_some, Option.map_none, List.nil_append, ↓reduceIte, vcu, ↓vcd]
  refine (opened τ1 h o bs (hv.sub s1) hl hb).mono ?_
  rintro r τ2 ⟨g, m, rfl, hs2, hR⟩
  simp -implicitDefEqProofs (disch := omega) only [List.any_cons, List.any_nil, Nat.reduceEqDiff, List.map_cons, List.map_nil, Option.map_some, Option.map_none, List.nil_append, ↓reduceIte, vcu, ↓vcd, opK_some]
  refine (shape_draw τ1 τ2 g h o _ 0 6 hR (by omega) (by omega)).mono ?_
  rintro _ τ3 ⟨s, p', rfl, hD, -, -, d⟩
  simp -implicitDefEqProofs (disch := omega) only [List.any_cons, List.any_nil, Nat.reduceEqDiff, List.map_cons, List.map_nil, Option.map_some, Option.map_none, List.nil_append, ↓reduceIte, vcu, ↓vcd, opK_some]
  refine r_sets (g := c2) (i := 0) (C := [.int .i64 0, .int .i64 0, .int .i64 0]) (by simp -implicitDefEqProofs (disch := omega) only [List.any_cons, List.any_nil, Nat.reduceEqDiff, List.map_cons, List.map_nil, Option.map_some, Option.map_none, List.nil_append, ↓reduceIte, vcu, ↓vcd]) (by simp -implicitDefEqProofs (disch := omega) only [List.any_cons, List.any_nil, Nat.reduceEqDiff, List.map_cons, List.map_nil, Option.map_some, Option.map_none, List.nil_append, ↓reduceIte, vcu, ↓vcd, co24]; rfl) (by simp -implicitDefEqProofs (disch := omega) only [List.any_cons, List.any_nil, Nat.reduceEqDiff, List.map_cons, List.map_nil, Option.map_some, Option.map_none, List.nil_append, ↓reduceIte, vcu, ↓vcd]; rfl) (by simp -implicitDefEqProofs (disch := omega) only [List.any_cons, List.any_nil, Nat.reduceEqDiff, List.map_cons, List.map_nil, Option.map_some, Option.map_none, List.nil_append, ↓reduceIte, vcu, ↓vcd]; exact Nat.zero_lt_succ _) (d.rd.sub _ _ e2) (by simp -implicitDefEqProofs (disch := omega) only [List.any_cons, List.any_nil, Nat.reduceEqDiff, List.map_cons, List.map_nil, Option.map_some, Option.map_none, List.nil_append, ↓reduceIte, vcu, ↓vcd]; exact Nat.le_refl _) fun τ4 k4 e4 => ?_
  replace e4 : τ4 c2 = some ⟨[.int .i64 s.O, .int .i64 s.E, .int .i64 s.M], false⟩ := e4
  have l4 : lds τ4 c2 0 3 = some [.int .i64 s.O, .int .i64 s.E, .int .i64 s.M] := lds_three (ld_of e4 rfl) (ld_of e4 rfl) (ld_of e4 rfl)
  simp -implicitDefEqProofs (disch := omega) only [List.any_cons, List.any_nil, Nat.reduceEqDiff, List.map_cons, List.map_nil, Option.map_some, Option.map_none, List.nil_append, ↓reduceIte, vcu, ↓vcd]
  exact fin_cell Try.results45 τ4 (Sub.refl _) (v := .agg #[.int .i64 s.O, .int .i64 s.E, .int .i64 s.M]) (by simp -implicitDefEqProofs (disch := omega) only [List.any_cons, List.any_nil, Nat.reduceEqDiff, List.map_cons, List.map_nil, Option.map_some, Option.map_none, List.nil_append, ↓reduceIte, vcu, ↓vcd, l4, co24]) ⟨s, rfl, hD, k4.sub (s1.trans d.rd.sub) n2⟩
theorem drawEn_at (σ : AHeap) (h o : Nat) (bs : List Int) (hv : IntsAt .u8 σ h o bs) (hl : bs.length ≤ 1048576) (hb : ∀ b ∈ bs, 0 ≤ b ∧ b ≤ 255) :
    ACall Try.prog w0 48 [.slice (some ⟨h, o, none⟩) bs.length 1] σ fun r σ' => ∃ s : Sp, r = .agg #[.int .i64 s.O, .int .i64 s.E, .int .i64 s.M] ∧ Drawn s ∧ Sub σ σ' := by
  refine acall_goc mixed Try.func48 rfl goodc48 fun pr => ?_
  simp -implicitDefEqProofs (disch := omega) only [List.any_cons, List.any_nil, Nat.reduceEqDiff, List.map_cons, List.map_nil, Option.map_some, Option.map_none, List.nil_append, ↓reduceIte, vcu, ↓vcd]
  refine r_new ze24 fun c2 τ1 n2 s1 e2 => ?_
  replace e2 : τ1 c2 = some ⟨[.int .i64 0, .int .i64 0, .int .i64 0], false⟩ := e2
  simp -implicitDefEqProofs (disch := omega) only [List.any_cons, List.any_nil, Nat.reduceEqDiff, List.map_cons, List.map_nil, Option.map_some, Option.map_none, List.nil_append, ↓reduceIte, vcu, ↓vcd]
  refine (opened τ1 h o bs (hv.sub s1) hl hb).mono ?_
  rintro r τ2 ⟨g, m, rfl, hs2, hR⟩
  simp -implicitDefEqProofs (disch := omega) only [List.any_cons, List.any_nil, Nat.reduceEqDiff, List.map_cons, List.map_nil, Option.map_some, Option.map_none, List.nil_append, ↓reduceIte, vcu, ↓vcd, opK_some]
  refine (shape_draw τ1 τ2 g h o _ 0 6 hR (by omega) (by omega)).mono ?_
  rintro _ τ3 ⟨s, p', rfl, hD, -, -, d⟩
  simp -implicitDefEqProofs (disch := omega) only [List.any_cons, List.any_nil, Nat.reduceEqDiff, List.map_cons, List.map_nil, Option.map_some, Option.map_none, List.nil_append, ↓reduceIte, vcu, ↓vcd, opK_some]
  refine r_sets (g := c2) (i := 0) (C := [.int .i64 0, .int .i64 0, .int .i64 0]) (by simp -implicitDefEqProofs (disch := omega) only [List.any_cons, List.any_nil, Nat.reduceEqDiff, List.map_cons, List.map_nil, Option.map_some, Option.map_none, List.nil_append, ↓reduceIte, vcu, ↓vcd]) (by simp -implicitDefEqProofs (disch := omega) only [List.any_cons, List.any_nil, Nat.reduceEqDiff, List.map_cons, List.map_nil, Option.map_some, Option.map_none, List.nil_append, ↓reduceIte, vcu, ↓vcd, co24]; rfl) (by simp -implicitDefEqProofs (disch := omega) only [List.any_cons, List.any_nil, Nat.reduceEqDiff, List.map_cons, List.map_nil, Option.map_some, Option.map_none, List.nil_append, ↓reduceIte, vcu, ↓vcd]; rfl) (by simp -implicitDefEqProofs (disch := omega) only [List.any_cons, List.any_nil, Nat.reduceEqDiff, List.map_cons, List.map_nil, Option.map_some, Option.map_none, List.nil_append, ↓reduceIte, vcu, ↓vcd]; exact Nat.zero_lt_succ _) (d.rd.sub _ _ e2) (by simp -implicitDefEqProofs (disch := omega) only [List.any_cons, List.any_nil, Nat.reduceEqDiff, List.map_cons, List.map_nil, Option.map_some, Option.map_none, List.nil_append, ↓reduceIte, vcu, ↓vcd]; exact Nat.le_refl _) fun τ4 k4 e4 => ?_
  replace e4 : τ4 c2 = some ⟨[.int .i64 s.O, .int .i64 s.E, .int .i64 s.M], false⟩ := e4
  have l4 : lds τ4 c2 0 3 = some [.int .i64 s.O, .int .i64 s.E, .int .i64 s.M] := lds_three (ld_of e4 rfl) (ld_of e4 rfl) (ld_of e4 rfl)
  simp -implicitDefEqProofs (disch := omega) only [List.any_cons, List.any_nil, Nat.reduceEqDiff, List.map_cons, List.map_nil, Option.map_some, Option.map_none, List.nil_append, ↓reduceIte, vcu, ↓vcd]
  exact fin_cell Try.results48 τ4 (Sub.refl _) (v := .agg #[.int .i64 s.O, .int .i64 s.E, .int .i64 s.M]) (by simp -implicitDefEqProofs (disch := omega) only [List.any_cons, List.any_nil, Nat.reduceEqDiff, List.map_cons, List.map_nil, Option.map_some, Option.map_none, List.nil_append, ↓reduceIte, vcu, ↓vcd, l4, co24]) ⟨s, rfl, hD, k4.sub (s1.trans d.rd.sub) n2⟩
theorem drawCV_at (σ : AHeap) (h o : Nat) (bs : List Int) (hv : IntsAt .u8 σ h o bs) (hl : bs.length ≤ 1048576) (hb : ∀ b ∈ bs, 0 ≤ b ∧ b ≤ 255) :
    ACall Try.prog w0 27 [.slice (some ⟨h, o, none⟩) bs.length 1] σ fun r σ' => ∃ (s : Sp) (v : Value) (cs : List Cl), r = .tuple #[.agg #[.int .i64 s.O, .int .i64 s.E, .int .i64 s.M], v] ∧ Drawn s ∧ cs.length ≤ 14 ∧ Tris σ' v cs ∧ Sub σ σ' := by
  refine acall_goc mixed Try.func27 rfl goodc27 fun pr => ?_
  simp -implicitDefEqProofs (disch := omega) only [List.any_cons, List.any_nil, Nat.reduceEqDiff, List.map_cons, List.map_nil, Option.map_some, Option.map_none, List.nil_append, ↓reduceIte, vcu, ↓vcd]
  refine r_new ze24 fun c2 τ1 n2 s1 e2 => ?_
  replace e2 : τ1 c2 = some ⟨[.int .i64 0, .int .i64 0, .int .i64 0], false⟩ := e2
  simp -implicitDefEqProofs (disch := omega) only [List.any_cons, List.any_nil, Nat.reduceEqDiff, List.map_cons, List.map_nil, Option.map_some, Option.map_none, List.nil_append, ↓reduceIte, vcu, ↓vcd]
  refine (opened τ1 h o bs (hv.sub s1) hl hb).mono ?_
  rintro r τ2 ⟨g, m, rfl, hs2, hR⟩
  simp -implicitDefEqProofs (disch := omega) only [List.any_cons, List.any_nil, Nat.reduceEqDiff, List.map_cons, List.map_nil, Option.map_some, Option.map_none, List.nil_append, ↓reduceIte, vcu, ↓vcd, opK_some]
  refine (calls_draw τ1 τ2 g h o _ 0 2 hR (by omega) (by omega)).mono ?_
  rintro _ τ3 ⟨s, v, cs, p', rfl, hD, hl14, w, -, -, d⟩
  simp -implicitDefEqProofs (disch := omega) only [List.any_cons, List.any_nil, Nat.reduceEqDiff, List.map_cons, List.map_nil, Option.map_some, Option.map_none, List.nil_append, ↓reduceIte, vcu, ↓vcd, opK_some, List.getElem?_toArray, List.getElem?_cons_zero, List.getElem?_cons_succ]
  refine r_sets (g := c2) (i := 0) (C := [.int .i64 0, .int .i64 0, .int .i64 0]) (by simp -implicitDefEqProofs (disch := omega) only [List.any_cons, List.any_nil, Nat.reduceEqDiff, List.map_cons, List.map_nil, Option.map_some, Option.map_none, List.nil_append, ↓reduceIte, vcu, ↓vcd]) (by simp -implicitDefEqProofs (disch := omega) only [List.any_cons, List.any_nil, Nat.reduceEqDiff, List.map_cons, List.map_nil, Option.map_some, Option.map_none, List.nil_append, ↓reduceIte, vcu, ↓vcd, co24]; rfl) (by simp -implicitDefEqProofs (disch := omega) only [List.any_cons, List.any_nil, Nat.reduceEqDiff, List.map_cons, List.map_nil, Option.map_some, Option.map_none, List.nil_append, ↓reduceIte, vcu, ↓vcd]; rfl) (by simp -implicitDefEqProofs (disch := omega) only [List.any_cons, List.any_nil, Nat.reduceEqDiff, List.map_cons, List.map_nil, Option.map_some, Option.map_none, List.nil_append, ↓reduceIte, vcu, ↓vcd]; exact Nat.zero_lt_succ _) (d.rd.sub _ _ e2) (by simp -implicitDefEqProofs (disch := omega) only [List.any_cons, List.any_nil, Nat.reduceEqDiff, List.map_cons, List.map_nil, Option.map_some, Option.map_none, List.nil_append, ↓reduceIte, vcu, ↓vcd]; exact Nat.le_refl _) fun τ4 k4 e4 => ?_
  replace e4 : τ4 c2 = some ⟨[.int .i64 s.O, .int .i64 s.E, .int .i64 s.M], false⟩ := e4
  have l4 : lds τ4 c2 0 3 = some [.int .i64 s.O, .int .i64 s.E, .int .i64 s.M] := lds_three (ld_of e4 rfl) (ld_of e4 rfl) (ld_of e4 rfl)
  simp -implicitDefEqProofs (disch := omega) only [List.any_cons, List.any_nil, Nat.reduceEqDiff, List.map_cons, List.map_nil, Option.map_some, Option.map_none, List.nil_append, ↓reduceIte, vcu, ↓vcd]
  refine fin_ct Try.results27 τ4 (Sub.refl _) (v := .agg #[.int .i64 s.O, .int .i64 s.E, .int .i64 s.M]) (by simp -implicitDefEqProofs (disch := omega) only [List.any_cons, List.any_nil, Nat.reduceEqDiff, List.map_cons, List.map_nil, Option.map_some, Option.map_none, List.nil_append, ↓reduceIte, vcu, ↓vcd, l4, co24]) ⟨s, v, cs, ?_, hD, hl14, (w.put k4 (hs2 _ _ e2)).tris, k4.sub (s1.trans d.rd.sub) n2⟩
  simp -implicitDefEqProofs (disch := omega) only [List.any_cons, List.any_nil, Nat.reduceEqDiff, List.map_cons, List.map_nil, Option.map_some, Option.map_none, List.nil_append, ↓reduceIte, vcu, ↓vcd]
theorem drawFr_at (σ : AHeap) (h o : Nat) (bs : List Int) (hv : IntsAt .u8 σ h o bs) (hl : bs.length ≤ 1048576) (hb : ∀ b ∈ bs, 0 ≤ b ∧ b ≤ 255) :
    ACall Try.prog w0 30 [.slice (some ⟨h, o, none⟩) bs.length 1] σ fun r σ' => ∃ (s : Sp) (v : Value) (cs : List Cl) (I O : Int), r = .tuple #[.agg #[.int .i64 s.O, .int .i64 s.E, .int .i64 s.M], v, .int .i64 I, .int .i64 O] ∧ Drawn s ∧ cs.length ≤ 14 ∧ Tris σ' v cs ∧ Sub σ σ' ∧ (0 ≤ I ∧ I ≤ 40) ∧ (-40 ≤ O ∧ O ≤ 40) := by
  refine acall_goc mixed Try.func30 rfl goodc30 fun pr => ?_
  simp -implicitDefEqProofs (disch := omega) only [List.any_cons, List.any_nil, Nat.reduceEqDiff, List.map_cons, List.map_nil, Option.map_some, Option.map_none, List.nil_append, ↓reduceIte, vcu, ↓vcd]
  refine r_new ze24 fun c2 τ1 n2 s1 e2 => ?_
  replace e2 : τ1 c2 = some ⟨[.int .i64 0, .int .i64 0, .int .i64 0], false⟩ := e2
  simp -implicitDefEqProofs (disch := omega) only [List.any_cons, List.any_nil, Nat.reduceEqDiff, List.map_cons, List.map_nil, Option.map_some, Option.map_none, List.nil_append, ↓reduceIte, vcu, ↓vcd]
  refine (opened τ1 h o bs (hv.sub s1) hl hb).mono ?_
  rintro r τ2 ⟨g, m, rfl, hs2, hR⟩
  simp -implicitDefEqProofs (disch := omega) only [List.any_cons, List.any_nil, Nat.reduceEqDiff, List.map_cons, List.map_nil, Option.map_some, Option.map_none, List.nil_append, ↓reduceIte, vcu, ↓vcd, opK_some]
  refine (asked_draw τ1 τ2 g h o _ 0 9 hR (by omega) (by omega)).mono ?_
  rintro _ τ3 ⟨s, v, cs, I, O, rfl, hD, hl14, w, hk, hs, hI, hO⟩
  simp -implicitDefEqProofs (disch := omega) only [List.any_cons, List.any_nil, Nat.reduceEqDiff, List.map_cons, List.map_nil, Option.map_some, Option.map_none, List.nil_append, ↓reduceIte, vcu, ↓vcd, opK_some, List.getElem?_toArray, List.getElem?_cons_zero, List.getElem?_cons_succ]
  refine r_sets (g := c2) (i := 0) (C := [.int .i64 0, .int .i64 0, .int .i64 0]) (by simp -implicitDefEqProofs (disch := omega) only [List.any_cons, List.any_nil, Nat.reduceEqDiff, List.map_cons, List.map_nil, Option.map_some, Option.map_none, List.nil_append, ↓reduceIte, vcu, ↓vcd]) (by simp -implicitDefEqProofs (disch := omega) only [List.any_cons, List.any_nil, Nat.reduceEqDiff, List.map_cons, List.map_nil, Option.map_some, Option.map_none, List.nil_append, ↓reduceIte, vcu, ↓vcd, co24]; rfl) (by simp -implicitDefEqProofs (disch := omega) only [List.any_cons, List.any_nil, Nat.reduceEqDiff, List.map_cons, List.map_nil, Option.map_some, Option.map_none, List.nil_append, ↓reduceIte, vcu, ↓vcd]; rfl) (by simp -implicitDefEqProofs (disch := omega) only [List.any_cons, List.any_nil, Nat.reduceEqDiff, List.map_cons, List.map_nil, Option.map_some, Option.map_none, List.nil_append, ↓reduceIte, vcu, ↓vcd]; exact Nat.zero_lt_succ _) (hs _ _ e2) (by simp -implicitDefEqProofs (disch := omega) only [List.any_cons, List.any_nil, Nat.reduceEqDiff, List.map_cons, List.map_nil, Option.map_some, Option.map_none, List.nil_append, ↓reduceIte, vcu, ↓vcd]; exact Nat.le_refl _) fun τ4 k4 e4 => ?_
  replace e4 : τ4 c2 = some ⟨[.int .i64 s.O, .int .i64 s.E, .int .i64 s.M], false⟩ := e4
  have l4 : lds τ4 c2 0 3 = some [.int .i64 s.O, .int .i64 s.E, .int .i64 s.M] := lds_three (ld_of e4 rfl) (ld_of e4 rfl) (ld_of e4 rfl)
  simp -implicitDefEqProofs (disch := omega) only [List.any_cons, List.any_nil, Nat.reduceEqDiff, List.map_cons, List.map_nil, Option.map_some, Option.map_none, List.nil_append, ↓reduceIte, vcu, ↓vcd]
  refine fin_cttt Try.results30 τ4 (Sub.refl _) (v := .agg #[.int .i64 s.O, .int .i64 s.E, .int .i64 s.M]) (by simp -implicitDefEqProofs (disch := omega) only [List.any_cons, List.any_nil, Nat.reduceEqDiff, List.map_cons, List.map_nil, Option.map_some, Option.map_none, List.nil_append, ↓reduceIte, vcu, ↓vcd, l4, co24]) ⟨s, v, cs, I, O, ?_, hD, hl14, (w.put k4 (hs2 _ _ e2)).tris, k4.sub (s1.trans hs) n2, hI, hO⟩
  simp -implicitDefEqProofs (disch := omega) only [List.any_cons, List.any_nil, Nat.reduceEqDiff, List.map_cons, List.map_nil, Option.map_some, Option.map_none, List.nil_append, ↓reduceIte, vcu, ↓vcd]
theorem drawPut_at (σ : AHeap) (h o : Nat) (bs : List Int) (hv : IntsAt .u8 σ h o bs) (hl : bs.length ≤ 1048576) (hb : ∀ b ∈ bs, 0 ≤ b ∧ b ≤ 255) :
    ACall Try.prog w0 37 [.slice (some ⟨h, o, none⟩) bs.length 1] σ fun r σ' => ∃ (s : Sp) (v : Value) (cs : List Cl) (I O : Int), r = .tuple #[.agg #[.int .i64 s.O, .int .i64 s.E, .int .i64 s.M], v, .int .i64 I, .int .i64 O] ∧ Drawn s ∧ cs.length ≤ 14 ∧ Tris σ' v cs ∧ Sub σ σ' ∧ (0 ≤ I ∧ I ≤ 40) ∧ (-40 ≤ O ∧ O ≤ 40) := by
  refine acall_goc mixed Try.func37 rfl goodc37 fun pr => ?_
  simp -implicitDefEqProofs (disch := omega) only [List.any_cons, List.any_nil, Nat.reduceEqDiff, List.map_cons, List.map_nil, Option.map_some, Option.map_none, List.nil_append, ↓reduceIte, vcu, ↓vcd]
  refine r_new ze24 fun c2 τ1 n2 s1 e2 => ?_
  replace e2 : τ1 c2 = some ⟨[.int .i64 0, .int .i64 0, .int .i64 0], false⟩ := e2
  simp -implicitDefEqProofs (disch := omega) only [List.any_cons, List.any_nil, Nat.reduceEqDiff, List.map_cons, List.map_nil, Option.map_some, Option.map_none, List.nil_append, ↓reduceIte, vcu, ↓vcd]
  refine (opened τ1 h o bs (hv.sub s1) hl hb).mono ?_
  rintro r τ2 ⟨g, m, rfl, hs2, hR⟩
  simp -implicitDefEqProofs (disch := omega) only [List.any_cons, List.any_nil, Nat.reduceEqDiff, List.map_cons, List.map_nil, Option.map_some, Option.map_none, List.nil_append, ↓reduceIte, vcu, ↓vcd, opK_some]
  refine (asked_draw τ1 τ2 g h o _ 0 9 hR (by omega) (by omega)).mono ?_
  rintro _ τ3 ⟨s, v, cs, I, O, rfl, hD, hl14, w, hk, hs, hI, hO⟩
  simp -implicitDefEqProofs (disch := omega) only [List.any_cons, List.any_nil, Nat.reduceEqDiff, List.map_cons, List.map_nil, Option.map_some, Option.map_none, List.nil_append, ↓reduceIte, vcu, ↓vcd, opK_some, List.getElem?_toArray, List.getElem?_cons_zero, List.getElem?_cons_succ]
  refine r_sets (g := c2) (i := 0) (C := [.int .i64 0, .int .i64 0, .int .i64 0]) (by simp -implicitDefEqProofs (disch := omega) only [List.any_cons, List.any_nil, Nat.reduceEqDiff, List.map_cons, List.map_nil, Option.map_some, Option.map_none, List.nil_append, ↓reduceIte, vcu, ↓vcd]) (by simp -implicitDefEqProofs (disch := omega) only [List.any_cons, List.any_nil, Nat.reduceEqDiff, List.map_cons, List.map_nil, Option.map_some, Option.map_none, List.nil_append, ↓reduceIte, vcu, ↓vcd, co24]; rfl) (by simp -implicitDefEqProofs (disch := omega) only [List.any_cons, List.any_nil, Nat.reduceEqDiff, List.map_cons, List.map_nil, Option.map_some, Option.map_none, List.nil_append, ↓reduceIte, vcu, ↓vcd]; rfl) (by simp -implicitDefEqProofs (disch := omega) only [List.any_cons, List.any_nil, Nat.reduceEqDiff, List.map_cons, List.map_nil, Option.map_some, Option.map_none, List.nil_append, ↓reduceIte, vcu, ↓vcd]; exact Nat.zero_lt_succ _) (hs _ _ e2) (by simp -implicitDefEqProofs (disch := omega) only [List.any_cons, List.any_nil, Nat.reduceEqDiff, List.map_cons, List.map_nil, Option.map_some, Option.map_none, List.nil_append, ↓reduceIte, vcu, ↓vcd]; exact Nat.le_refl _) fun τ4 k4 e4 => ?_
  replace e4 : τ4 c2 = some ⟨[.int .i64 s.O, .int .i64 s.E, .int .i64 s.M], false⟩ := e4
  have l4 : lds τ4 c2 0 3 = some [.int .i64 s.O, .int .i64 s.E, .int .i64 s.M] := lds_three (ld_of e4 rfl) (ld_of e4 rfl) (ld_of e4 rfl)
  simp -implicitDefEqProofs (disch := omega) only [List.any_cons, List.any_nil, Nat.reduceEqDiff, List.map_cons, List.map_nil, Option.map_some, Option.map_none, List.nil_append, ↓reduceIte, vcu, ↓vcd]
  refine fin_cttt Try.results37 τ4 (Sub.refl _) (v := .agg #[.int .i64 s.O, .int .i64 s.E, .int .i64 s.M]) (by simp -implicitDefEqProofs (disch := omega) only [List.any_cons, List.any_nil, Nat.reduceEqDiff, List.map_cons, List.map_nil, Option.map_some, Option.map_none, List.nil_append, ↓reduceIte, vcu, ↓vcd, l4, co24]) ⟨s, v, cs, I, O, ?_, hD, hl14, (w.put k4 (hs2 _ _ e2)).tris, k4.sub (s1.trans hs) n2, hI, hO⟩
  simp -implicitDefEqProofs (disch := omega) only [List.any_cons, List.any_nil, Nat.reduceEqDiff, List.map_cons, List.map_nil, Option.map_some, Option.map_none, List.nil_append, ↓reduceIte, vcu, ↓vcd]
theorem drawMv_at (σ : AHeap) (h o : Nat) (bs : List Int) (hv : IntsAt .u8 σ h o bs) (hl : bs.length ≤ 1048576) (hb : ∀ b ∈ bs, 0 ≤ b ∧ b ≤ 255) :
    ACall Try.prog w0 51 [.slice (some ⟨h, o, none⟩) bs.length 1] σ fun r σ' => ∃ (s : Sp) (v : Value) (cs : List Cl) (I O : Int), r = .tuple #[.agg #[.int .i64 s.O, .int .i64 s.E, .int .i64 s.M], v, .int .i64 I, .int .i64 O] ∧ Drawn s ∧ cs.length ≤ 14 ∧ Tris σ' v cs ∧ Sub σ σ' ∧ (0 ≤ I ∧ I ≤ 40) ∧ (-40 ≤ O ∧ O ≤ 40) := by
  refine acall_goc mixed Try.func51 rfl goodc51 fun pr => ?_
  simp -implicitDefEqProofs (disch := omega) only [List.any_cons, List.any_nil, Nat.reduceEqDiff, List.map_cons, List.map_nil, Option.map_some, Option.map_none, List.nil_append, ↓reduceIte, vcu, ↓vcd]
  refine r_new ze24 fun c2 τ1 n2 s1 e2 => ?_
  replace e2 : τ1 c2 = some ⟨[.int .i64 0, .int .i64 0, .int .i64 0], false⟩ := e2
  simp -implicitDefEqProofs (disch := omega) only [List.any_cons, List.any_nil, Nat.reduceEqDiff, List.map_cons, List.map_nil, Option.map_some, Option.map_none, List.nil_append, ↓reduceIte, vcu, ↓vcd]
  refine (opened τ1 h o bs (hv.sub s1) hl hb).mono ?_
  rintro r τ2 ⟨g, m, rfl, hs2, hR⟩
  simp -implicitDefEqProofs (disch := omega) only [List.any_cons, List.any_nil, Nat.reduceEqDiff, List.map_cons, List.map_nil, Option.map_some, Option.map_none, List.nil_append, ↓reduceIte, vcu, ↓vcd, opK_some]
  refine (asked_draw τ1 τ2 g h o _ 0 9 hR (by omega) (by omega)).mono ?_
  rintro _ τ3 ⟨s, v, cs, I, O, rfl, hD, hl14, w, hk, hs, hI, hO⟩
  simp -implicitDefEqProofs (disch := omega) only [List.any_cons, List.any_nil, Nat.reduceEqDiff, List.map_cons, List.map_nil, Option.map_some, Option.map_none, List.nil_append, ↓reduceIte, vcu, ↓vcd, opK_some, List.getElem?_toArray, List.getElem?_cons_zero, List.getElem?_cons_succ]
  refine r_sets (g := c2) (i := 0) (C := [.int .i64 0, .int .i64 0, .int .i64 0]) (by simp -implicitDefEqProofs (disch := omega) only [List.any_cons, List.any_nil, Nat.reduceEqDiff, List.map_cons, List.map_nil, Option.map_some, Option.map_none, List.nil_append, ↓reduceIte, vcu, ↓vcd]) (by simp -implicitDefEqProofs (disch := omega) only [List.any_cons, List.any_nil, Nat.reduceEqDiff, List.map_cons, List.map_nil, Option.map_some, Option.map_none, List.nil_append, ↓reduceIte, vcu, ↓vcd, co24]; rfl) (by simp -implicitDefEqProofs (disch := omega) only [List.any_cons, List.any_nil, Nat.reduceEqDiff, List.map_cons, List.map_nil, Option.map_some, Option.map_none, List.nil_append, ↓reduceIte, vcu, ↓vcd]; rfl) (by simp -implicitDefEqProofs (disch := omega) only [List.any_cons, List.any_nil, Nat.reduceEqDiff, List.map_cons, List.map_nil, Option.map_some, Option.map_none, List.nil_append, ↓reduceIte, vcu, ↓vcd]; exact Nat.zero_lt_succ _) (hs _ _ e2) (by simp -implicitDefEqProofs (disch := omega) only [List.any_cons, List.any_nil, Nat.reduceEqDiff, List.map_cons, List.map_nil, Option.map_some, Option.map_none, List.nil_append, ↓reduceIte, vcu, ↓vcd]; exact Nat.le_refl _) fun τ4 k4 e4 => ?_
  replace e4 : τ4 c2 = some ⟨[.int .i64 s.O, .int .i64 s.E, .int .i64 s.M], false⟩ := e4
  have l4 : lds τ4 c2 0 3 = some [.int .i64 s.O, .int .i64 s.E, .int .i64 s.M] := lds_three (ld_of e4 rfl) (ld_of e4 rfl) (ld_of e4 rfl)
  simp -implicitDefEqProofs (disch := omega) only [List.any_cons, List.any_nil, Nat.reduceEqDiff, List.map_cons, List.map_nil, Option.map_some, Option.map_none, List.nil_append, ↓reduceIte, vcu, ↓vcd]
  refine fin_cttt Try.results51 τ4 (Sub.refl _) (v := .agg #[.int .i64 s.O, .int .i64 s.E, .int .i64 s.M]) (by simp -implicitDefEqProofs (disch := omega) only [List.any_cons, List.any_nil, Nat.reduceEqDiff, List.map_cons, List.map_nil, Option.map_some, Option.map_none, List.nil_append, ↓reduceIte, vcu, ↓vcd, l4, co24]) ⟨s, v, cs, I, O, ?_, hD, hl14, (w.put k4 (hs2 _ _ e2)).tris, k4.sub (s1.trans hs) n2, hI, hO⟩
  simp -implicitDefEqProofs (disch := omega) only [List.any_cons, List.any_nil, Nat.reduceEqDiff, List.map_cons, List.map_nil, Option.map_some, Option.map_none, List.nil_append, ↓reduceIte, vcu, ↓vcd]
theorem drawMvd_at (σ : AHeap) (h o : Nat) (bs : List Int) (hv : IntsAt .u8 σ h o bs) (hl : bs.length ≤ 1048576) (hb : ∀ b ∈ bs, 0 ≤ b ∧ b ≤ 255) :
    ACall Try.prog w0 54 [.slice (some ⟨h, o, none⟩) bs.length 1] σ fun r σ' => ∃ (v u : Value) (cs ds : List Cl), r = .tuple #[v, u] ∧ cs.length ≤ 14 ∧ ds.length ≤ 13 ∧ Tris σ' v cs ∧ Tris σ' u ds ∧ Sub σ σ' := by
  refine acall_go mixed Try.func54 rfl good54 fun pr => ?_
  simp -implicitDefEqProofs (disch := omega) only [List.any_cons, List.any_nil, Nat.reduceEqDiff, List.map_cons, List.map_nil, Option.map_some, Option.map_none, List.nil_append, ↓reduceIte, vcu, ↓vcd]
  refine (opened σ h o bs hv hl hb).mono ?_
  rintro r τ2 ⟨g, m, rfl, hs2, hR⟩
  simp -implicitDefEqProofs (disch := omega) only [List.any_cons, List.any_nil, Nat.reduceEqDiff, List.map_cons, List.map_nil, Option.map_some, Option.map_none, List.nil_append, ↓reduceIte, vcu, ↓vcd, opK_some]
  refine (asked_draw σ τ2 g h o _ 0 9 hR (by omega) (by omega)).mono ?_
  rintro _ τ3 ⟨s, v, cs, I, O, rfl, hD, hl14, w, hk, hs, hI, hO⟩
  simp -implicitDefEqProofs (disch := omega) only [List.any_cons, List.any_nil, Nat.reduceEqDiff, List.map_cons, List.map_nil, Option.map_some, Option.map_none, List.nil_append, ↓reduceIte, vcu, ↓vcd, opK_some, List.getElem?_toArray, List.getElem?_cons_zero, List.getElem?_cons_succ]
  refine r_new ze24 fun c4 τ4a n4 s4a e4a => ?_
  replace e4a : τ4a c4 = some ⟨[.int .i64 0, .int .i64 0, .int .i64 0], false⟩ := e4a
  refine r_sets (g := c4) (i := 0) (C := [.int .i64 0, .int .i64 0, .int .i64 0]) (by simp -implicitDefEqProofs (disch := omega) only [List.any_cons, List.any_nil, Nat.reduceEqDiff, List.map_cons, List.map_nil, Option.map_some, Option.map_none, List.nil_append, ↓reduceIte, vcu, ↓vcd]) (by simp -implicitDefEqProofs (disch := omega) only [List.any_cons, List.any_nil, Nat.reduceEqDiff, List.map_cons, List.map_nil, Option.map_some, Option.map_none, List.nil_append, ↓reduceIte, vcu, ↓vcd, co24]; rfl) (by simp -implicitDefEqProofs (disch := omega) only [List.any_cons, List.any_nil, Nat.reduceEqDiff, List.map_cons, List.map_nil, Option.map_some, Option.map_none, List.nil_append, ↓reduceIte, vcu, ↓vcd]; rfl) (by simp -implicitDefEqProofs (disch := omega) only [List.any_cons, List.any_nil, Nat.reduceEqDiff, List.map_cons, List.map_nil, Option.map_some, Option.map_none, List.nil_append, ↓reduceIte, vcu, ↓vcd]; exact Nat.zero_lt_succ _) e4a (by simp -implicitDefEqProofs (disch := omega) only [List.any_cons, List.any_nil, Nat.reduceEqDiff, List.map_cons, List.map_nil, Option.map_some, Option.map_none, List.nil_append, ↓reduceIte, vcu, ↓vcd]; exact Nat.le_refl _) fun τ4 k4 e4 => ?_
  replace e4 : τ4 c4 = some ⟨[.int .i64 s.O, .int .i64 s.E, .int .i64 s.M], false⟩ := e4
  have s4 := k4.sub s4a n4
  have l4 : lds τ4 c4 0 3 = some [.int .i64 s.O, .int .i64 s.E, .int .i64 s.M] := lds_three (ld_of e4 rfl) (ld_of e4 rfl) (ld_of e4 rfl)
  simp -implicitDefEqProofs (disch := omega) only [List.any_cons, List.any_nil, Nat.reduceEqDiff, List.map_cons, List.map_nil, Option.map_some, Option.map_none, List.nil_append, ↓reduceIte, vcu, ↓vcd, l4, co24]
  refine (specMove_calls τ4 s v cs I O (w.tris.sub s4) (by omega)).mono ?_
  rintro _ τ5 ⟨u, rfl, s5, w5⟩
  simp -implicitDefEqProofs (disch := omega) only [List.any_cons, List.any_nil, Nat.reduceEqDiff, List.map_cons, List.map_nil, Option.map_some, Option.map_none, List.nil_append, ↓reduceIte, vcu, ↓vcd, opK_some, List.getElem?_toArray, List.getElem?_cons_zero, List.getElem?_cons_succ]
  refine fin_two Try.results54 ⟨v, u, cs, _, ?_, hl14, mvL_len14, w.tris.sub (s4.trans s5), w5.tris, hs.trans (s4.trans s5)⟩
  simp -implicitDefEqProofs (disch := omega) only [List.any_cons, List.any_nil, Nat.reduceEqDiff, List.map_cons, List.map_nil, Option.map_some, Option.map_none, List.nil_append, ↓reduceIte, vcu, ↓vcd]
set_option maxRecDepth 8000 in
theorem drawRt_at (σ : AHeap) (h o : Nat) (bs : List Int) (hv : IntsAt .u8 σ h o bs) (hl : bs.length ≤ 1048576) (hb : ∀ b ∈ bs, 0 ≤ b ∧ b ≤ 255) :
    ACall Try.prog w0 56 [.slice (some ⟨h, o, none⟩) bs.length 1] σ fun r σ' => ∃ (s : Sp) (q : Nat) (ps : List Int), r = .tuple #[.agg #[.int .i64 s.O, .int .i64 s.E, .int .i64 s.M], .slice (some ⟨q, 0, none⟩) ps.length 1] ∧ Drawn s ∧ ps.length ≤ 13 ∧ IntsAt .i64 σ' q 0 ps ∧ Sub σ σ' := by
  refine acall_goc mixed Try.func56 rfl goodc56 fun pr => ?_
  simp -implicitDefEqProofs (disch := omega) only [List.any_cons, List.any_nil, Nat.reduceEqDiff, List.map_cons, List.map_nil, Option.map_some, Option.map_none, List.nil_append, ↓reduceIte, vcu, ↓vcd]
  refine r_new ze24 fun c2 τ1 n2 s1 e2 => ?_
  replace e2 : τ1 c2 = some ⟨[.int .i64 0, .int .i64 0, .int .i64 0], false⟩ := e2
  simp -implicitDefEqProofs (disch := omega) only [List.any_cons, List.any_nil, Nat.reduceEqDiff, List.map_cons, List.map_nil, Option.map_some, Option.map_none, List.nil_append, ↓reduceIte, vcu, ↓vcd]
  refine (opened τ1 h o bs (hv.sub s1) hl hb).mono ?_
  rintro r τ2 ⟨g, m, rfl, hs2, hR⟩
  simp -implicitDefEqProofs (disch := omega) only [List.any_cons, List.any_nil, Nat.reduceEqDiff, List.map_cons, List.map_nil, Option.map_some, Option.map_none, List.nil_append, ↓reduceIte, vcu, ↓vcd, opK_some]
  refine (shape_draw τ1 τ2 g h o _ 0 12 hR (by omega) (by omega)).mono ?_
  rintro _ τ3 ⟨s, p', rfl, hD, hp1, hp2, d3⟩
  simp -implicitDefEqProofs (disch := omega) only [List.any_cons, List.any_nil, Nat.reduceEqDiff, List.map_cons, List.map_nil, Option.map_some, Option.map_none, List.nil_append, ↓reduceIte, vcu, ↓vcd, opK_some]
  refine r_local (cs := #[.int .i64 s.O, .int .i64 s.E, .int .i64 s.M]) ze24 (by decide) (by simp -implicitDefEqProofs (disch := omega) only [List.any_cons, List.any_nil, Nat.reduceEqDiff, List.map_cons, List.map_nil, Option.map_some, Option.map_none, List.nil_append, ↓reduceIte, vcu, ↓vcd]) (by rw [co24]; rfl) rfl rfl (Nat.zero_lt_succ _) fun c5 τ4 n5 s4 e5 => ?_
  replace e5 : τ4 c5 = some ⟨[.int .i64 s.O, .int .i64 s.E, .int .i64 s.M], false⟩ := e5
  have d4 := d3.new s4
  have g5 := (d3.fresh n5).2
  have hLn := hD.lines
  have lO : ld τ4 c5 (0 + 0) = some (.int .i64 s.O) := ld_of e5 rfl
  have lE : ld τ4 c5 (0 + 1) = some (.int .i64 s.E) := ld_of e5 rfl
  have hm13 : 0 ≤ max (s.O * s.E) 0 % 13 ∧ max (s.O * s.E) 0 % 13 ≤ 12 := by omega
  have hm0 : 0 ≤ max (s.O * s.E) 0 := by omega
  simp -implicitDefEqProofs (disch := omega) only [List.any_cons, List.any_nil, Nat.reduceEqDiff, List.map_cons, List.map_nil, Option.map_some, Option.map_none, List.nil_append, ↓reduceIte, vcu, ↓vcd, lO, lE]
  obtain ⟨zn, hzn⟩ : ∃ zn : Nat, max (s.O * s.E) 0 % 13 = zn := ⟨(max (s.O * s.E) 0 % 13).toNat, by omega⟩
  rw [hzn]
  have dx := Rd.above4 d4.rd
  refine (perm_draw (τ4.upd g none) τ4 g h o _ p' zn dx (by omega) (by omega)).mono ?_
  rintro r τ5 ⟨q, ps, p2, rfl, hpl, hq, hqf, hqg, hp3, hp4, hR5⟩
  have hle : Sub τ1 (τ4.upd g none) := Rd.less4 d4.rd
  have hE5 : (τ4.upd g none) c5 = some ⟨[.int .i64 s.O, .int .i64 s.E, .int .i64 s.M], false⟩ := by rw [AHeap.upd_ne _ _ g5]; exact e5
  have hq5 : q ≠ c5 := ne_of hqf hE5
  have hq2 : q ≠ c2 := ne_of hqf (hle _ _ e2)
  have l5 : ∀ τ', Sub (τ4.upd g none) τ' → lds τ' c5 0 3 = some [.int .i64 s.O, .int .i64 s.E, .int .i64 s.M] := fun τ' hs => lds_three (ld_of (hs _ _ hE5) rfl) (ld_of (hs _ _ hE5) rfl) (ld_of (hs _ _ hE5) rfl)
  rw [← hpl]
  have h13 : ps.length ≤ 12 := by omega
  clear lO lE e5
  simp -implicitDefEqProofs (disch := omega) only [List.any_cons, List.any_nil, Nat.reduceEqDiff, List.map_cons, List.map_nil, Option.map_some, Option.map_none, List.nil_append, ↓reduceIte, vcu, ↓vcd, opK_some]
  refine (odd_at (τ4.upd g none) τ5 g h o _ p2 12 hR5 (by omega) (by omega)).mono ?_
  rintro r τ6 ⟨bb, rfl, hR6, hK6⟩
  have hq6 := hK6.at hq hqg
  have fin : ∀ (τ7 τ8 : AHeap) (a : AFrame) (ps7 : List Int), a 2 = .pointer (some ⟨c2, 0, none⟩) → a 3 = .slice (some ⟨q, 0, none⟩) ps7.length 1 → ps7.length ≤ 13 → Sub (τ4.upd g none) τ7 → τ7 q = some ⟨ints .i64 ps7, false⟩ → Kept c2 τ7 τ8 → τ8 c2 = some ⟨[.int .i64 s.O, .int .i64 s.E, .int .i64 s.M], false⟩ →
      finC Try.prog Try.f56 (fun r σ' => ∃ (s : Sp) (q : Nat) (ps : List Int), r = .tuple #[.agg #[.int .i64 s.O, .int .i64 s.E, .int .i64 s.M], .slice (some ⟨q, 0, none⟩) ps.length 1] ∧ Drawn s ∧ ps.length ≤ 13 ∧ IntsAt .i64 σ' q 0 ps ∧ Sub σ σ') a τ8 := by
    intro τ7 τ8 a ps7 a2 a3 hl7 hs7 hq7 hk8 e8
    have l8 : lds τ8 c2 0 3 = some [.int .i64 s.O, .int .i64 s.E, .int .i64 s.M] := lds_three (ld_of e8 rfl) (ld_of e8 rfl) (ld_of e8 rfl)
    exact fin_ct Try.results56 τ8 (Sub.refl _) (v := .agg #[.int .i64 s.O, .int .i64 s.E, .int .i64 s.M]) (by simp -implicitDefEqProofs (disch := omega) only [List.any_cons, List.any_nil, Nat.reduceEqDiff, List.map_cons, List.map_nil, Option.map_some, Option.map_none, List.nil_append, ↓reduceIte, vcu, ↓vcd, a2, l8, co24]) ⟨s, q, ps7, by rw [a3], hD, hl7, intsAt_own (hk8.at hq7 hq2), hk8.sub (s1.trans (hle.trans hs7)) n2⟩
  have hc2 : ∀ τ', Sub (τ4.upd g none) τ' → τ' c2 = some ⟨[.int .i64 0, .int .i64 0, .int .i64 0], false⟩ := fun τ' hs => hs _ _ (hle _ _ e2)
  cases bb with
  | false =>
    have l6 := l5 τ6 hR6.sub
    simp -implicitDefEqProofs (disch := omega) only [List.any_cons, List.any_nil, Nat.reduceEqDiff, List.map_cons, List.map_nil, Option.map_some, Option.map_none, List.nil_append, ↓reduceIte, vcu, ↓vcd, opK_some, l6, co24]
    refine r_sets (g := c2) (i := 0) (C := [.int .i64 0, .int .i64 0, .int .i64 0]) (by simp -implicitDefEqProofs (disch := omega) only [List.any_cons, List.any_nil, Nat.reduceEqDiff, List.map_cons, List.map_nil, Option.map_some, Option.map_none, List.nil_append, ↓reduceIte, vcu, ↓vcd]) (by simp -implicitDefEqProofs (disch := omega) only [List.any_cons, List.any_nil, Nat.reduceEqDiff, List.map_cons, List.map_nil, Option.map_some, Option.map_none, List.nil_append, ↓reduceIte, vcu, ↓vcd, co24]; rfl) (by simp -implicitDefEqProofs (disch := omega) only [List.any_cons, List.any_nil, Nat.reduceEqDiff, List.map_cons, List.map_nil, Option.map_some, Option.map_none, List.nil_append, ↓reduceIte, vcu, ↓vcd]; rfl) (by simp -implicitDefEqProofs (disch := omega) only [List.any_cons, List.any_nil, Nat.reduceEqDiff, List.map_cons, List.map_nil, Option.map_some, Option.map_none, List.nil_append, ↓reduceIte, vcu, ↓vcd]; exact Nat.zero_lt_succ _) (hc2 τ6 hR6.sub) (by simp -implicitDefEqProofs (disch := omega) only [List.any_cons, List.any_nil, Nat.reduceEqDiff, List.map_cons, List.map_nil, Option.map_some, Option.map_none, List.nil_append, ↓reduceIte, vcu, ↓vcd]; exact Nat.le_refl _) fun τ7 k7 e7 => ?_
    replace e7 : τ7 c2 = some ⟨[.int .i64 s.O, .int .i64 s.E, .int .i64 s.M], false⟩ := e7
    simp -implicitDefEqProofs (disch := omega) only [List.any_cons, List.any_nil, Nat.reduceEqDiff, List.map_cons, List.map_nil, Option.map_some, Option.map_none, List.nil_append, ↓reduceIte, vcu, ↓vcd]
    exact fin τ6 τ7 _ ps (by simp -implicitDefEqProofs (disch := omega) only [List.any_cons, List.any_nil, Nat.reduceEqDiff, List.map_cons, List.map_nil, Option.map_some, Option.map_none, List.nil_append, ↓reduceIte, vcu, ↓vcd]) (by simp -implicitDefEqProofs (disch := omega) only [List.any_cons, List.any_nil, Nat.reduceEqDiff, List.map_cons, List.map_nil, Option.map_some, Option.map_none, List.nil_append, ↓reduceIte, vcu, ↓vcd]) (by omega) hR6.sub hq6 k7 e7
  | true =>
    by_cases h0 : 0 < ps.length
    · have hld := intsAt_own hq6 (ps.length - 1) (by omega)
      have ei : ((ps.length : Int) - 1).toNat = ps.length - 1 := by omega
      simp -implicitDefEqProofs (disch := omega) only [List.any_cons, List.any_nil, Nat.reduceEqDiff, List.map_cons, List.map_nil, Option.map_some, Option.map_none, List.nil_append, ↓reduceIte, vcu, ↓vcd, opK_some, hld, ei, Nat.mul_one]
      refine r_setI (g := q) (i := 0) (v := ps.getD (ps.length - 1) 0) (by simp -implicitDefEqProofs (disch := omega) only [List.any_cons, List.any_nil, Nat.reduceEqDiff, List.map_cons, List.map_nil, Option.map_some, Option.map_none, List.nil_append, ↓reduceIte, vcu, ↓vcd, Int.toNat_zero]) (by simp -implicitDefEqProofs (disch := omega) only [List.any_cons, List.any_nil, Nat.reduceEqDiff, List.map_cons, List.map_nil, Option.map_some, Option.map_none, List.nil_append, ↓reduceIte, vcu, ↓vcd]) co3 hq6 (by omega) fun τ7 k7 e7 => ?_
      have hs7 : Sub (τ4.upd g none) τ7 := k7.sub hR6.sub hqf
      have l7 := l5 τ7 hs7
      simp -implicitDefEqProofs (disch := omega) only [List.any_cons, List.any_nil, Nat.reduceEqDiff, List.map_cons, List.map_nil, Option.map_some, Option.map_none, List.nil_append, ↓reduceIte, vcu, ↓vcd, l7, co24]
      refine r_sets (g := c2) (i := 0) (C := [.int .i64 0, .int .i64 0, .int .i64 0]) (by simp -implicitDefEqProofs (disch := omega) only [List.any_cons, List.any_nil, Nat.reduceEqDiff, List.map_cons, List.map_nil, Option.map_some, Option.map_none, List.nil_append, ↓reduceIte, vcu, ↓vcd]) (by simp -implicitDefEqProofs (disch := omega) only [List.any_cons, List.any_nil, Nat.reduceEqDiff, List.map_cons, List.map_nil, Option.map_some, Option.map_none, List.nil_append, ↓reduceIte, vcu, ↓vcd, co24]; rfl) (by simp -implicitDefEqProofs (disch := omega) only [List.any_cons, List.any_nil, Nat.reduceEqDiff, List.map_cons, List.map_nil, Option.map_some, Option.map_none, List.nil_append, ↓reduceIte, vcu, ↓vcd]; rfl) (by simp -implicitDefEqProofs (disch := omega) only [List.any_cons, List.any_nil, Nat.reduceEqDiff, List.map_cons, List.map_nil, Option.map_some, Option.map_none, List.nil_append, ↓reduceIte, vcu, ↓vcd]; exact Nat.zero_lt_succ _) (hc2 τ7 hs7) (by simp -implicitDefEqProofs (disch := omega) only [List.any_cons, List.any_nil, Nat.reduceEqDiff, List.map_cons, List.map_nil, Option.map_some, Option.map_none, List.nil_append, ↓reduceIte, vcu, ↓vcd]; exact Nat.le_refl _) fun τ8 k8 e8 => ?_
      replace e8 : τ8 c2 = some ⟨[.int .i64 s.O, .int .i64 s.E, .int .i64 s.M], false⟩ := e8
      simp -implicitDefEqProofs (disch := omega) only [List.any_cons, List.any_nil, Nat.reduceEqDiff, List.map_cons, List.map_nil, Option.map_some, Option.map_none, List.nil_append, ↓reduceIte, vcu, ↓vcd]
      exact fin τ7 τ8 _ (ps.set 0 (ps.getD (ps.length - 1) 0)) (by simp -implicitDefEqProofs (disch := omega) only [List.any_cons, List.any_nil, Nat.reduceEqDiff, List.map_cons, List.map_nil, Option.map_some, Option.map_none, List.nil_append, ↓reduceIte, vcu, ↓vcd]) (by simp -implicitDefEqProofs (disch := omega) only [List.any_cons, List.any_nil, Nat.reduceEqDiff, List.map_cons, List.map_nil, Option.map_some, Option.map_none, List.nil_append, ↓reduceIte, vcu, ↓vcd, List.length_set]) (by simp; omega) hs7 e7 k8 e8
    · have l6 := l5 τ6 hR6.sub
      simp -implicitDefEqProofs (disch := omega) only [List.any_cons, List.any_nil, Nat.reduceEqDiff, List.map_cons, List.map_nil, Option.map_some, Option.map_none, List.nil_append, ↓reduceIte, vcu, ↓vcd, opK_some, l6, co24]
      refine r_sets (g := c2) (i := 0) (C := [.int .i64 0, .int .i64 0, .int .i64 0]) (by simp -implicitDefEqProofs (disch := omega) only [List.any_cons, List.any_nil, Nat.reduceEqDiff, List.map_cons, List.map_nil, Option.map_some, Option.map_none, List.nil_append, ↓reduceIte, vcu, ↓vcd]) (by simp -implicitDefEqProofs (disch := omega) only [List.any_cons, List.any_nil, Nat.reduceEqDiff, List.map_cons, List.map_nil, Option.map_some, Option.map_none, List.nil_append, ↓reduceIte, vcu, ↓vcd, co24]; rfl) (by simp -implicitDefEqProofs (disch := omega) only [List.any_cons, List.any_nil, Nat.reduceEqDiff, List.map_cons, List.map_nil, Option.map_some, Option.map_none, List.nil_append, ↓reduceIte, vcu, ↓vcd]; rfl) (by simp -implicitDefEqProofs (disch := omega) only [List.any_cons, List.any_nil, Nat.reduceEqDiff, List.map_cons, List.map_nil, Option.map_some, Option.map_none, List.nil_append, ↓reduceIte, vcu, ↓vcd]; exact Nat.zero_lt_succ _) (hc2 τ6 hR6.sub) (by simp -implicitDefEqProofs (disch := omega) only [List.any_cons, List.any_nil, Nat.reduceEqDiff, List.map_cons, List.map_nil, Option.map_some, Option.map_none, List.nil_append, ↓reduceIte, vcu, ↓vcd]; exact Nat.le_refl _) fun τ7 k7 e7 => ?_
      replace e7 : τ7 c2 = some ⟨[.int .i64 s.O, .int .i64 s.E, .int .i64 s.M], false⟩ := e7
      simp -implicitDefEqProofs (disch := omega) only [List.any_cons, List.any_nil, Nat.reduceEqDiff, List.map_cons, List.map_nil, Option.map_some, Option.map_none, List.nil_append, ↓reduceIte, vcu, ↓vcd]
      exact fin τ6 τ7 _ ps (by simp -implicitDefEqProofs (disch := omega) only [List.any_cons, List.any_nil, Nat.reduceEqDiff, List.map_cons, List.map_nil, Option.map_some, Option.map_none, List.nil_append, ↓reduceIte, vcu, ↓vcd]) (by simp -implicitDefEqProofs (disch := omega) only [List.any_cons, List.any_nil, Nat.reduceEqDiff, List.map_cons, List.map_nil, Option.map_some, Option.map_none, List.nil_append, ↓reduceIte, vcu, ↓vcd]) (by omega) hR6.sub hq6 k7 e7
end Go.Proofs.Ytphacjkogompoaa

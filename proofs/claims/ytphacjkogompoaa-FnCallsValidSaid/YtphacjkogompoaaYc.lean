/- Networks that are drawn. -/
import Derived.Test.YtphacjkogompoaaYa
import Derived.Test.YtphacjkogompoaaCf
set_option linter.unusedSimpArgs false
set_option linter.unusedVariables false
namespace Go.Proofs.Ytphacjkogompoaa
open Go Go.Abs Go.RowKit Go.Clos
variable {w0 : World}

theorem acodeB_monoY {P : Program} {b : Base} {n : NR} {c : Code} {a : AFrame} {σ : AHeap} {Q Q' : AQ} (h : ACodeB P b n c a σ Q') (hq : ∀ e a σ, Q' e a σ → Q e a σ) : ACodeB P b n c a σ Q := ACode.mono h hq
/-- all but the reader -/
theorem less_keptY {g : Nat} {σ τ : AHeap} (h : Kept g σ τ) : Sub (σ.upd g none) τ := fun k ob e => by
  by_cases hk : k = g
  · subst hk; rw [AHeap.upd_same] at e; cases e
  · rw [AHeap.upd_ne _ _ hk] at e; exact h k ob hk e
/-- a drawing: the reader, and what was there -/
structure DS (β σ0 σ : AHeap) (g h o : Nat) (bs : List Int) (p : Int) : Prop where
  rd : Rd β σ g h o bs p
  kp : Kept g σ0 σ
  s0 : Sub β σ0
section
variable {β σ0 σ τ : AHeap} {g h o c : Nat} {bs : List Int} {p p' : Int}
theorem DS.start (hr : Rd β σ g h o bs p) : DS β σ σ g h o bs p := ⟨hr, Kept.refl _ _, hr.sub⟩
theorem DS.new (d : DS β σ0 σ g h o bs p) (hs : Sub σ τ) : DS β σ0 τ g h o bs p := ⟨d.rd.sub' hs, d.kp.trans hs.kept, d.s0⟩
theorem DS.put (d : DS β σ0 σ g h o bs p) (hk : Kept c σ τ) (hc : c ≠ g) (hn : σ0 c = none) : DS β σ0 τ g h o bs p := ⟨d.rd.put hk hc (free_sub d.s0 hn), d.kp.step hk (.inl hn), d.s0⟩
theorem DS.step (d : DS β σ0 σ g h o bs p) (hR : Rd β τ g h o bs p') (hK : Kept g σ τ) : DS β σ0 τ g h o bs p' := ⟨hR, d.kp.trans hK, d.s0⟩
theorem DS.fresh (d : DS β σ0 σ g h o bs p) (hn : σ c = none) : σ0 c = none ∧ c ≠ g := by
  have hc : c ≠ g := ne_of hn d.rd.at_
  refine ⟨?_, hc⟩
  cases e : σ0 c with
  | none => rfl
  | some ob => rw [d.kp c ob hc e] at hn; cases hn
theorem DS.on (d : DS β σ0 σ g h o bs p) (d2 : DS β σ τ g h o bs p') : DS β σ0 τ g h o bs p' := ⟨d2.rd, d.kp.trans d2.kp, d.s0⟩
end
def Drawn (s : Sp) : Prop := (0 ≤ s.O ∧ s.O ≤ 5) ∧ (0 ≤ s.E ∧ s.E ≤ 4) ∧ (0 ≤ s.M ∧ s.M ≤ 6)
theorem Drawn.lines {s : Sp} (h : Drawn s) : 0 ≤ s.O * s.E ∧ s.O * s.E ≤ 20 := by
  obtain ⟨⟨o1, o2⟩, ⟨e1, e2⟩, -⟩ := h
  have h12 : s.O * s.E ≤ 5 * 4 := Int.mul_le_mul o2 e2 (by omega) (by omega)
  have h1 : 0 ≤ s.O * s.E := Int.mul_nonneg o1 e1
  omega
theorem row2 {x y z : Int} (h : z = 0 ∨ z = 1) : ([x, y] : List Int).getD z.toNat 0 = x ∨ ([x, y] : List Int).getD z.toNat 0 = y := by rcases h with rfl | rfl <;> simp [List.getD]
theorem row3 {x y w z : Int} (h : z = 0 ∨ z = 1 ∨ z = 2) : ([x, y, w] : List Int).getD z.toNat 0 = x ∨ ([x, y, w] : List Int).getD z.toNat 0 = y ∨ ([x, y, w] : List Int).getD z.toNat 0 = w := by rcases h with rfl | rfl | rfl <;> simp [List.getD]

set_option maxRecDepth 8000 in
set_option maxHeartbeats 1600000 in
theorem shape_draw (β σ : AHeap) (g h o : Nat) (bs : List Int) (p n : Int) (hr : Rd β σ g h o bs p) (hp : 0 ≤ p ∧ p ≤ 10000) (hn : 1 ≤ n ∧ n ≤ 1000) :
    ACall Try.prog w0 68 [.pointer (some ⟨g, 0, none⟩), .int .i64 n] σ fun r σ' => ∃ (s : Sp) (p' : Int), r = .agg #[.int .i64 s.O, .int .i64 s.E, .int .i64 s.M] ∧ Drawn s ∧ p ≤ p' ∧ p' ≤ p + 8 ∧ DS β σ σ' g h o bs p' := by
  refine acall_goc mixed Try.func68 rfl goodc68 fun pr => ?_
  simp -implicitDefEqProofs (disch := omega) only [List.any_cons, List.any_nil, Nat.reduceEqDiff, List.map_cons, List.map_nil, Option.map_some, Option.map_none, List.nil_append, ↓reduceIte, vcu, ↓vcd]
  refine r_new ze24 fun c4 τ1 n4 s1 e4 => ?_
  replace e4 : τ1 c4 = some ⟨[.int .i64 0, .int .i64 0, .int .i64 0], false⟩ := e4
  have d1 := (DS.start hr).new s1
  obtain ⟨n4, g4⟩ := (DS.start hr).fresh n4
  clear s1
  simp -implicitDefEqProofs (disch := omega) only [List.any_cons, List.any_nil, Nat.reduceEqDiff, List.map_cons, List.map_nil, Option.map_some, Option.map_none, List.nil_append, ↓reduceIte, vcu, ↓vcd]
  refine (pick_at β τ1 g h o bs p 4 d1.rd (by omega) (by omega)).mono ?_
  rintro r τ2 ⟨z1, rfl, a1, a2, hR, hK⟩
  have d2 := d1.step hR hK
  replace e4 := hK.at e4 g4
  clear hR hK d1
  simp -implicitDefEqProofs (disch := omega) only [List.any_cons, List.any_nil, Nat.reduceEqDiff, List.map_cons, List.map_nil, Option.map_some, Option.map_none, List.nil_append, ↓reduceIte, vcu, ↓vcd, opK_some]
  refine (pick_at β τ2 g h o bs (p + 1) 3 d2.rd (by omega) (by omega)).mono ?_
  rintro r τ3 ⟨z2, rfl, a3, a4, hR, hK⟩
  have d3 := d2.step hR hK
  replace e4 := hK.at e4 g4
  clear hR hK d2
  simp -implicitDefEqProofs (disch := omega) only [List.any_cons, List.any_nil, Nat.reduceEqDiff, List.map_cons, List.map_nil, Option.map_some, Option.map_none, List.nil_append, ↓reduceIte, vcu, ↓vcd, opK_some]
  rw [r_build]
  refine ⟨(_, #[.int .i64 (1 + z1), .int .i64 (1 + z2), .int .i64 0]), ⟨ze24, by simp -implicitDefEqProofs (disch := omega) only [List.any_cons, List.any_nil, Nat.reduceEqDiff, List.map_cons, List.map_nil, Option.map_some, Option.map_none, List.nil_append, ↓reduceIte, vcu, ↓vcd]; kernel_rfl⟩, ?_⟩
  simp -implicitDefEqProofs (disch := omega) only [List.any_cons, List.any_nil, Nat.reduceEqDiff, List.map_cons, List.map_nil, Option.map_some, Option.map_none, List.nil_append, ↓reduceIte, vcu, ↓vcd]
  refine r_local (cs := #[.int .i64 (1 + z1), .int .i64 (1 + z2), .int .i64 0]) ze24 (by decide) (by simp -implicitDefEqProofs (disch := omega) only [List.any_cons, List.any_nil, Nat.reduceEqDiff, List.map_cons, List.map_nil, Option.map_some, Option.map_none, List.nil_append, ↓reduceIte, vcu, ↓vcd]) (by rw [co24]; rfl) rfl rfl (Nat.zero_lt_succ _) fun c5 τ4 n5 s4 e5 => ?_
  replace e5 : τ4 c5 = some ⟨[.int .i64 (1 + z1), .int .i64 (1 + z2), .int .i64 0], false⟩ := e5
  have d4 := d3.new s4
  have c45 : c5 ≠ c4 := ne_of n5 e4
  obtain ⟨n5, g5⟩ := d3.fresh n5
  replace e4 := s4 _ _ e4
  clear s4 d3
  have z1' : 1 ≤ 1 + z1 ∧ 1 + z1 ≤ 4 := by omega
  have z2' : 1 ≤ 1 + z2 ∧ 1 + z2 ≤ 3 := by omega
  generalize 1 + z1 = X at *
  generalize 1 + z2 = E at *
  clear a1 a2 a3 a4
  generalize hq : p + 1 + 1 = q at *
  have hE5 : (τ4.upd g none) c5 = some ⟨[.int .i64 X, .int .i64 E, .int .i64 0], false⟩ := by rw [AHeap.upd_ne _ _ g5]; exact e5
  have lE : ld (τ4.upd g none) c5 (0 + 1) = some (.int .i64 E) := ld_of hE5 rfl
  simp -implicitDefEqProofs (disch := omega) only [List.any_cons, List.any_nil, Nat.reduceEqDiff, List.map_cons, List.map_nil, Option.map_some, Option.map_none, List.nil_append, ↓reduceIte, vcu, ↓vcd]
  refine acodeB_monoY (Q' := fun e a' τ8 => e = .normal ∧ (a' 0 = .pointer (some ⟨g, 0, none⟩) ∧ a' 1 = .int .i64 n ∧ a' 4 = .pointer (some ⟨c4, 0, none⟩) ∧ a' 5 = .pointer (some ⟨c5, 0, none⟩)) ∧ ∃ M : Int, (0 ≤ M ∧ M ≤ 6) ∧ DS β σ τ8 g h o bs (q + 1 + 1) ∧ τ8 c5 = some ⟨[.int .i64 X, .int .i64 E, .int .i64 M], false⟩ ∧ τ8 c4 = some ⟨[.int .i64 0, .int .i64 0, .int .i64 0], false⟩)
    (region_tree mixed (quiets [0, 1, 2, 3, 4, 5, 6, 10] (.one 7 (quiets [8] (.two 9 (.one 11 (.one 12 (.one 13 (.one 14 (.one 15 .stop))))) 11 (.one 9 (.one 12 (.one 13 (.one 14 (.one 15 .stop))))))))) [([0, 1, 2, 3, 4, 5, 6, 10], Sub (τ4.upd g none))] (by kernel_rfl) (by kernel_rfl) (fun p hp => by simp only [List.mem_singleton] at hp; subst hp; exact less_keptY (Kept.refl _ _)) ?_) ?_
  · refine tree_quiets (τ4.upd g none) _ _ _ sf1 (by kernel_rfl) (by kernel_rfl) ?_
    simp -implicitDefEqProofs (disch := omega) only [List.any_cons, List.any_nil, Nat.reduceEqDiff, List.map_cons, List.map_nil, Option.map_some, Option.map_none, List.nil_append, ↓reduceIte, vcu, ↓vcd, pickOps_nil, pickOps_cons, pickO_some, List.getElem?_cons_succ, List.getElem?_cons_zero, lE]
    refine tree_one rfl ?_
    simp -implicitDefEqProofs (disch := omega) only [List.any_cons, List.any_nil, Nat.reduceEqDiff, List.map_cons, List.map_nil, Option.map_some, Option.map_none, List.nil_append, ↓reduceIte, vcu, ↓vcd]
    refine (pick_at β τ4 g h o bs q 5 d4.rd (by omega) (by omega)).mono ?_
    rintro r τ5 ⟨z3, rfl, a1, a2, hR, hK⟩
    have d5 := d4.step hR hK
    have f4 := hK.at e4 g4
    have f5 := hK.at e5 g5
    have hless := less_keptY hK
    clear hR hK
    simp -implicitDefEqProofs (disch := omega) only [List.any_cons, List.any_nil, Nat.reduceEqDiff, List.map_cons, List.map_nil, Option.map_some, Option.map_none, List.nil_append, ↓reduceIte, vcu, ↓vcd, opK_some]
    refine ⟨keep_of rfl (fun p hp => by simp only [List.mem_singleton] at hp; subst hp; exact .inr hless), ?_⟩
    refine tree_quiets (fun _ => none) _ _ _ (fun _ _ _ _ => fun x ob e => by cases e) (by kernel_rfl) (by kernel_rfl) ?_
    simp -implicitDefEqProofs (disch := omega) only [List.any_cons, List.any_nil, Nat.reduceEqDiff, List.map_cons, List.map_nil, Option.map_some, Option.map_none, List.nil_append, ↓reduceIte, vcu, ↓vcd, pickOps_nil, pickOps_cons, pickO_some, List.getElem?_cons_succ, List.getElem?_cons_zero]
    refine tree_two rfl rfl ?_ ?_
    · refine r_lit el37 (out := (Go.Abs.ints .i64 [E, 2 * E - 1, 1 + z3]).toArray) (by first | kernel_rfl | (simp -implicitDefEqProofs (disch := omega) only [List.any_cons, List.any_nil, Nat.reduceEqDiff, List.map_cons, List.map_nil, Option.map_some, Option.map_none, List.nil_append, ↓reduceIte, vcu, ↓vcd]; kernel_rfl)) (by kernel_rfl) fun e τ6 n6 s6 v6 => ?_
      have d6 := d5.new s6
      have g6 : e ≠ g := (d5.fresh n6).2
      simp -implicitDefEqProofs (disch := omega) only [List.any_cons, List.any_nil, Nat.reduceEqDiff, List.map_cons, List.map_nil, Option.map_some, Option.map_none, List.nil_append, ↓reduceIte, vcu, ↓vcd]
      refine ⟨keep_of rfl (fun p hp => by simp only [List.mem_singleton] at hp; subst hp; exact .inr (hless.trans s6)), tree_one rfl ?_⟩
      simp -implicitDefEqProofs (disch := omega) only [List.any_cons, List.any_nil, Nat.reduceEqDiff, List.map_cons, List.map_nil, Option.map_some, Option.map_none, List.nil_append, ↓reduceIte, vcu, ↓vcd]
      refine (pick_at β τ6 g h o bs (q + 1) 3 d6.rd (by omega) (by omega)).mono ?_
      rintro r τ7 ⟨z4, rfl, a3, a4, hR, hK⟩
      have d7 := d6.step hR hK
      have v7 := hK.at v6 g6
      have f7 := hK.at (s6 _ _ f5) g5
      have h7 := hK.at (s6 _ _ f4) g4
      have hx := intsAt_own v7 z4.toNat (by simp; omega)
      have hrw := row3 (x := E) (y := 2 * E - 1) (w := 1 + z3) (z := z4) (by omega)
      generalize ([E, 2 * E - 1, 1 + z3] : List Int).getD z4.toNat 0 = M at hx hrw
      have l7 : ∀ p ∈ ([([0, 1, 2, 3, 4, 5, 6, 10], Sub (τ4.upd g none))] : List (List Nat × (AHeap → Prop))), p.2 τ7 := fun p hp => by
        simp only [List.mem_singleton] at hp; subst hp
        exact less_keptY fun k ob hk e => hK k ob hk (s6 _ _ (hless k ob (by rw [AHeap.upd_ne _ _ hk]; exact e)))
      simp -implicitDefEqProofs (disch := omega) only [List.any_cons, List.any_nil, Nat.reduceEqDiff, List.map_cons, List.map_nil, Option.map_some, Option.map_none, List.nil_append, ↓reduceIte, vcu, ↓vcd, opK_some]
      refine ⟨keep_of rfl (fun p hp => .inr (l7 p hp)), tree_one rfl ?_⟩
      simp -implicitDefEqProofs (disch := omega) only [List.any_cons, List.any_nil, Nat.reduceEqDiff, List.map_cons, List.map_nil, Option.map_some, Option.map_none, List.nil_append, ↓reduceIte, vcu, ↓vcd]
      refine ⟨.inl rfl, tree_one rfl ?_⟩
      simp -implicitDefEqProofs (disch := omega) only [List.any_cons, List.any_nil, Nat.reduceEqDiff, List.map_cons, List.map_nil, Option.map_some, Option.map_none, List.nil_append, ↓reduceIte, vcu, ↓vcd, hx]
      refine ⟨.inl rfl, tree_one rfl ?_⟩
      simp -implicitDefEqProofs (disch := omega) only [List.any_cons, List.any_nil, Nat.reduceEqDiff, List.map_cons, List.map_nil, Option.map_some, Option.map_none, List.nil_append, ↓reduceIte, vcu, ↓vcd]
      refine ⟨.inl rfl, tree_one rfl ?_⟩
      refine r_set (g := c5) (i := 0 + 2) (by simp -implicitDefEqProofs (disch := omega) only [List.any_cons, List.any_nil, Nat.reduceEqDiff, List.map_cons, List.map_nil, Option.map_some, Option.map_none, List.nil_append, ↓reduceIte, vcu, ↓vcd]) (by simp -implicitDefEqProofs (disch := omega) only [List.any_cons, List.any_nil, Nat.reduceEqDiff, List.map_cons, List.map_nil, Option.map_some, Option.map_none, List.nil_append, ↓reduceIte, vcu, ↓vcd]; rfl) co3 (by simp -implicitDefEqProofs (disch := omega) only [List.any_cons, List.any_nil, Nat.reduceEqDiff, List.map_cons, List.map_nil, Option.map_some, Option.map_none, List.nil_append, ↓reduceIte, vcu, ↓vcd]; rfl) f7 (by simp) fun τ8 k8 e8 => ?_
      simp -implicitDefEqProofs (disch := omega) only [List.any_cons, List.any_nil, Nat.reduceEqDiff, List.map_cons, List.map_nil, Option.map_some, Option.map_none, List.nil_append, ↓reduceIte, vcu, ↓vcd] at e8
      replace e8 : τ8 c5 = some ⟨[.int .i64 X, .int .i64 E, .int .i64 M], false⟩ := e8
      have d8 := d7.put k8 g5 n5
      simp -implicitDefEqProofs (disch := omega) only [List.any_cons, List.any_nil, Nat.reduceEqDiff, List.map_cons, List.map_nil, Option.map_some, Option.map_none, List.nil_append, ↓reduceIte, vcu, ↓vcd]
      refine ⟨keep_of rfl (fun p hp => by simp only [List.mem_singleton] at hp; subst hp; exact .inl (by kernel_rfl)), tree_stop ?_⟩
      refine ⟨trivial, ⟨?_, ?_, ?_, ?_⟩, M, by omega, d8, e8, k8.at h7 c45.symm⟩
      · simp -implicitDefEqProofs (disch := omega) only [List.any_cons, List.any_nil, Nat.reduceEqDiff, List.map_cons, List.map_nil, Option.map_some, Option.map_none, List.nil_append, ↓reduceIte, vcu, ↓vcd]
      · simp -implicitDefEqProofs (disch := omega) only [List.any_cons, List.any_nil, Nat.reduceEqDiff, List.map_cons, List.map_nil, Option.map_some, Option.map_none, List.nil_append, ↓reduceIte, vcu, ↓vcd]
      · simp -implicitDefEqProofs (disch := omega) only [List.any_cons, List.any_nil, Nat.reduceEqDiff, List.map_cons, List.map_nil, Option.map_some, Option.map_none, List.nil_append, ↓reduceIte, vcu, ↓vcd]
      · simp -implicitDefEqProofs (disch := omega) only [List.any_cons, List.any_nil, Nat.reduceEqDiff, List.map_cons, List.map_nil, Option.map_some, Option.map_none, List.nil_append, ↓reduceIte, vcu, ↓vcd]
    · simp -implicitDefEqProofs (disch := omega) only [List.any_cons, List.any_nil, Nat.reduceEqDiff, List.map_cons, List.map_nil, Option.map_some, Option.map_none, List.nil_append, ↓reduceIte, vcu, ↓vcd]
      refine (pick_at β τ5 g h o bs (q + 1) 3 d5.rd (by omega) (by omega)).mono ?_
      rintro r τ6 ⟨z4, rfl, a3, a4, hR, hK⟩
      have d6 := d5.step hR hK
      have f6 := hK.at f5 g5
      have h6 := hK.at f4 g4
      have hl6 : Sub (τ4.upd g none) τ6 := less_keptY fun k ob hk e => hK k ob hk (hless k ob (by rw [AHeap.upd_ne _ _ hk]; exact e))
      simp -implicitDefEqProofs (disch := omega) only [List.any_cons, List.any_nil, Nat.reduceEqDiff, List.map_cons, List.map_nil, Option.map_some, Option.map_none, List.nil_append, ↓reduceIte, vcu, ↓vcd, opK_some]
      refine ⟨keep_of rfl (fun p hp => by simp only [List.mem_singleton] at hp; subst hp; exact .inr hl6), tree_one rfl ?_⟩
      refine r_lit el37 (out := (Go.Abs.ints .i64 [E, 2 * E - 1, 1 + z3]).toArray) (by first | kernel_rfl | (simp -implicitDefEqProofs (disch := omega) only [List.any_cons, List.any_nil, Nat.reduceEqDiff, List.map_cons, List.map_nil, Option.map_some, Option.map_none, List.nil_append, ↓reduceIte, vcu, ↓vcd]; kernel_rfl)) (by kernel_rfl) fun e τ7 n7 s7 v7 => ?_
      have d7 := d6.new s7
      have f7 := s7 _ _ f6
      have h7 := s7 _ _ h6
      have hx := intsAt_own v7 z4.toNat (by simp; omega)
      have hrw := row3 (x := E) (y := 2 * E - 1) (w := 1 + z3) (z := z4) (by omega)
      generalize ([E, 2 * E - 1, 1 + z3] : List Int).getD z4.toNat 0 = M at hx hrw
      simp -implicitDefEqProofs (disch := omega) only [List.any_cons, List.any_nil, Nat.reduceEqDiff, List.map_cons, List.map_nil, Option.map_some, Option.map_none, List.nil_append, ↓reduceIte, vcu, ↓vcd]
      refine ⟨keep_of rfl (fun p hp => by simp only [List.mem_singleton] at hp; subst hp; exact .inr (hl6.trans s7)), tree_one rfl ?_⟩
      simp -implicitDefEqProofs (disch := omega) only [List.any_cons, List.any_nil, Nat.reduceEqDiff, List.map_cons, List.map_nil, Option.map_some, Option.map_none, List.nil_append, ↓reduceIte, vcu, ↓vcd]
      refine ⟨.inl rfl, tree_one rfl ?_⟩
      simp -implicitDefEqProofs (disch := omega) only [List.any_cons, List.any_nil, Nat.reduceEqDiff, List.map_cons, List.map_nil, Option.map_some, Option.map_none, List.nil_append, ↓reduceIte, vcu, ↓vcd, hx]
      refine ⟨.inl rfl, tree_one rfl ?_⟩
      simp -implicitDefEqProofs (disch := omega) only [List.any_cons, List.any_nil, Nat.reduceEqDiff, List.map_cons, List.map_nil, Option.map_some, Option.map_none, List.nil_append, ↓reduceIte, vcu, ↓vcd]
      refine ⟨.inl rfl, tree_one rfl ?_⟩
      refine r_set (g := c5) (i := 0 + 2) (by simp -implicitDefEqProofs (disch := omega) only [List.any_cons, List.any_nil, Nat.reduceEqDiff, List.map_cons, List.map_nil, Option.map_some, Option.map_none, List.nil_append, ↓reduceIte, vcu, ↓vcd]) (by simp -implicitDefEqProofs (disch := omega) only [List.any_cons, List.any_nil, Nat.reduceEqDiff, List.map_cons, List.map_nil, Option.map_some, Option.map_none, List.nil_append, ↓reduceIte, vcu, ↓vcd]; rfl) co3 (by simp -implicitDefEqProofs (disch := omega) only [List.any_cons, List.any_nil, Nat.reduceEqDiff, List.map_cons, List.map_nil, Option.map_some, Option.map_none, List.nil_append, ↓reduceIte, vcu, ↓vcd]; rfl) f7 (by simp) fun τ8 k8 e8 => ?_
      simp -implicitDefEqProofs (disch := omega) only [List.any_cons, List.any_nil, Nat.reduceEqDiff, List.map_cons, List.map_nil, Option.map_some, Option.map_none, List.nil_append, ↓reduceIte, vcu, ↓vcd] at e8
      replace e8 : τ8 c5 = some ⟨[.int .i64 X, .int .i64 E, .int .i64 M], false⟩ := e8
      have d8 := d7.put k8 g5 n5
      simp -implicitDefEqProofs (disch := omega) only [List.any_cons, List.any_nil, Nat.reduceEqDiff, List.map_cons, List.map_nil, Option.map_some, Option.map_none, List.nil_append, ↓reduceIte, vcu, ↓vcd]
      refine ⟨keep_of rfl (fun p hp => by simp only [List.mem_singleton] at hp; subst hp; exact .inl (by kernel_rfl)), tree_stop ?_⟩
      refine ⟨trivial, ⟨?_, ?_, ?_, ?_⟩, M, by omega, d8, e8, k8.at h7 c45.symm⟩
      · simp -implicitDefEqProofs (disch := omega) only [List.any_cons, List.any_nil, Nat.reduceEqDiff, List.map_cons, List.map_nil, Option.map_some, Option.map_none, List.nil_append, ↓reduceIte, vcu, ↓vcd]
      · simp -implicitDefEqProofs (disch := omega) only [List.any_cons, List.any_nil, Nat.reduceEqDiff, List.map_cons, List.map_nil, Option.map_some, Option.map_none, List.nil_append, ↓reduceIte, vcu, ↓vcd]
      · simp -implicitDefEqProofs (disch := omega) only [List.any_cons, List.any_nil, Nat.reduceEqDiff, List.map_cons, List.map_nil, Option.map_some, Option.map_none, List.nil_append, ↓reduceIte, vcu, ↓vcd]
      · simp -implicitDefEqProofs (disch := omega) only [List.any_cons, List.any_nil, Nat.reduceEqDiff, List.map_cons, List.map_nil, Option.map_some, Option.map_none, List.nil_append, ↓reduceIte, vcu, ↓vcd]
  rintro _ a' τ8 ⟨rfl, ⟨f0, f1, f4, f5⟩, M, hM, d8, e8, v4⟩
  clear d4 e4 e5 hE5 lE
  simp -implicitDefEqProofs (disch := omega) only [List.any_cons, List.any_nil, Nat.reduceEqDiff, List.map_cons, List.map_nil, Option.map_some, Option.map_none, List.nil_append, ↓reduceIte, vcu, ↓vcd, f0, f1, f4, f5]
  refine (odd_at β τ8 g h o bs (q + 1 + 1) n d8.rd (by omega) (by omega)).mono ?_
  rintro r τ9 ⟨bb, rfl, hR, hK⟩
  have d9 := d8.step hR hK
  have e9 := hK.at e8 g5
  have v9 := hK.at v4 g4
  clear hR hK e8 v4
  cases bb with
  | false =>
    have l9 : lds τ9 c5 0 3 = some [.int .i64 X, .int .i64 E, .int .i64 M] := lds_three (ld_of e9 rfl) (ld_of e9 rfl) (ld_of e9 rfl)
    simp -implicitDefEqProofs (disch := omega) only [List.any_cons, List.any_nil, Nat.reduceEqDiff, List.map_cons, List.map_nil, Option.map_some, Option.map_none, List.nil_append, ↓reduceIte, vcu, ↓vcd, opK_some, f0, f1, f4, f5, l9, co24]
    refine r_sets (g := c4) (i := 0) (C := [.int .i64 0, .int .i64 0, .int .i64 0]) (by simp -implicitDefEqProofs (disch := omega) only [List.any_cons, List.any_nil, Nat.reduceEqDiff, List.map_cons, List.map_nil, Option.map_some, Option.map_none, List.nil_append, ↓reduceIte, vcu, ↓vcd, f4]) (by simp -implicitDefEqProofs (disch := omega) only [List.any_cons, List.any_nil, Nat.reduceEqDiff, List.map_cons, List.map_nil, Option.map_some, Option.map_none, List.nil_append, ↓reduceIte, vcu, ↓vcd, co24]; rfl) (by simp -implicitDefEqProofs (disch := omega) only [List.any_cons, List.any_nil, Nat.reduceEqDiff, List.map_cons, List.map_nil, Option.map_some, Option.map_none, List.nil_append, ↓reduceIte, vcu, ↓vcd]; rfl) (by simp -implicitDefEqProofs (disch := omega) only [List.any_cons, List.any_nil, Nat.reduceEqDiff, List.map_cons, List.map_nil, Option.map_some, Option.map_none, List.nil_append, ↓reduceIte, vcu, ↓vcd]; exact Nat.zero_lt_succ _) v9 (by simp -implicitDefEqProofs (disch := omega) only [List.any_cons, List.any_nil, Nat.reduceEqDiff, List.map_cons, List.map_nil, Option.map_some, Option.map_none, List.nil_append, ↓reduceIte, vcu, ↓vcd]; exact Nat.le_refl _) fun τ10 k10 e10 => ?_
    replace e10 : τ10 c4 = some ⟨[.int .i64 X, .int .i64 E, .int .i64 M], false⟩ := e10
    have l10 : lds τ10 c4 0 3 = some [.int .i64 X, .int .i64 E, .int .i64 M] := lds_three (ld_of e10 rfl) (ld_of e10 rfl) (ld_of e10 rfl)
    simp -implicitDefEqProofs (disch := omega) only [List.any_cons, List.any_nil, Nat.reduceEqDiff, List.map_cons, List.map_nil, Option.map_some, Option.map_none, List.nil_append, ↓reduceIte, vcu, ↓vcd]
    refine fin_cell Try.results68 τ10 (Sub.refl _) (v := .agg #[.int .i64 X, .int .i64 E, .int .i64 M]) (by simp -implicitDefEqProofs (disch := omega) only [List.any_cons, List.any_nil, Nat.reduceEqDiff, List.map_cons, List.map_nil, Option.map_some, Option.map_none, List.nil_append, ↓reduceIte, vcu, ↓vcd, f4, l10, co24]) ⟨⟨X, E, M⟩, q + 1 + 1 + 1, rfl, ⟨⟨by dsimp only; omega, by dsimp only; omega⟩, ⟨by dsimp only; omega, by dsimp only; omega⟩, ⟨by dsimp only; omega, by dsimp only; omega⟩⟩, by omega, by omega, d9.put k10 g4 n4⟩
  | true =>
    simp -implicitDefEqProofs (disch := omega) only [List.any_cons, List.any_nil, Nat.reduceEqDiff, List.map_cons, List.map_nil, Option.map_some, Option.map_none, List.nil_append, ↓reduceIte, vcu, ↓vcd, opK_some, f0, f1, f4, f5]
    refine (pick_at β τ9 g h o bs (q + 1 + 1 + 1) 3 d9.rd (by omega) (by omega)).mono ?_
    rintro r τ10 ⟨z5, rfl, a1, a2, hR, hK⟩
    have d10 := d9.step hR hK
    have e10 := hK.at e9 g5
    have v10 := hK.at v9 g4
    clear hR hK e9 v9
    by_cases q0 : z5 = 0
    · simp -implicitDefEqProofs (disch := omega) only [List.any_cons, List.any_nil, Nat.reduceEqDiff, List.map_cons, List.map_nil, Option.map_some, Option.map_none, List.nil_append, ↓reduceIte, vcu, ↓vcd, opK_some, f0, f1, f4, f5]
      refine r_lit el37 (out := (Go.Abs.ints .i64 [0, 5]).toArray) (by first | kernel_rfl | (simp -implicitDefEqProofs (disch := omega) only [List.any_cons, List.any_nil, Nat.reduceEqDiff, List.map_cons, List.map_nil, Option.map_some, Option.map_none, List.nil_append, ↓reduceIte, vcu, ↓vcd]; kernel_rfl)) (by kernel_rfl) fun e τ11 n11 s11 v11 => ?_
      have g11 : e ≠ g := (d10.fresh n11).2
      simp -implicitDefEqProofs (disch := omega) only [List.any_cons, List.any_nil, Nat.reduceEqDiff, List.map_cons, List.map_nil, Option.map_some, Option.map_none, List.nil_append, ↓reduceIte, vcu, ↓vcd, f0]
      refine (pick_at β τ11 g h o bs _ 2 (d10.new s11).rd (by omega) (by omega)).mono ?_
      rintro r τ12 ⟨z6, rfl, a3, a4, hR, hK⟩
      have d12 := (d10.new s11).step hR hK
      have hx := intsAt_own (hK.at v11 g11) z6.toNat (by simp; omega)
      have hrw := row2 (x := 0) (y := 5) (z := z6) (by omega)
      generalize ([0, 5] : List Int).getD z6.toNat 0 = W at hx hrw
      simp -implicitDefEqProofs (disch := omega) only [List.any_cons, List.any_nil, Nat.reduceEqDiff, List.map_cons, List.map_nil, Option.map_some, Option.map_none, List.nil_append, ↓reduceIte, vcu, ↓vcd, opK_some, hx, f5]
      refine r_set (g := c5) (i := 0 + 0) (by simp -implicitDefEqProofs (disch := omega) only [List.any_cons, List.any_nil, Nat.reduceEqDiff, List.map_cons, List.map_nil, Option.map_some, Option.map_none, List.nil_append, ↓reduceIte, vcu, ↓vcd, f5]) (by simp -implicitDefEqProofs (disch := omega) only [List.any_cons, List.any_nil, Nat.reduceEqDiff, List.map_cons, List.map_nil, Option.map_some, Option.map_none, List.nil_append, ↓reduceIte, vcu, ↓vcd]; rfl) co3 (by simp -implicitDefEqProofs (disch := omega) only [List.any_cons, List.any_nil, Nat.reduceEqDiff, List.map_cons, List.map_nil, Option.map_some, Option.map_none, List.nil_append, ↓reduceIte, vcu, ↓vcd]; rfl) (hK.at (s11 _ _ e10) g5) (by simp) fun τ13 k13 e13 => ?_
      simp -implicitDefEqProofs (disch := omega) only [List.any_cons, List.any_nil, Nat.reduceEqDiff, List.map_cons, List.map_nil, Option.map_some, Option.map_none, List.nil_append, ↓reduceIte, vcu, ↓vcd] at e13
      replace e13 : τ13 c5 = some ⟨[.int .i64 W, .int .i64 E, .int .i64 M], false⟩ := e13
      have l13 : lds τ13 c5 0 3 = some [.int .i64 W, .int .i64 E, .int .i64 M] := lds_three (ld_of e13 rfl) (ld_of e13 rfl) (ld_of e13 rfl)
      have v13 := k13.at (hK.at (s11 _ _ v10) g4) c45.symm
      have d13 := d12.put k13 g5 n5
      simp -implicitDefEqProofs (disch := omega) only [List.any_cons, List.any_nil, Nat.reduceEqDiff, List.map_cons, List.map_nil, Option.map_some, Option.map_none, List.nil_append, ↓reduceIte, vcu, ↓vcd, f0, f1, f4, f5, l13, co24]
      refine r_sets (g := c4) (i := 0) (C := [.int .i64 0, .int .i64 0, .int .i64 0]) (by simp -implicitDefEqProofs (disch := omega) only [List.any_cons, List.any_nil, Nat.reduceEqDiff, List.map_cons, List.map_nil, Option.map_some, Option.map_none, List.nil_append, ↓reduceIte, vcu, ↓vcd, f4]) (by simp -implicitDefEqProofs (disch := omega) only [List.any_cons, List.any_nil, Nat.reduceEqDiff, List.map_cons, List.map_nil, Option.map_some, Option.map_none, List.nil_append, ↓reduceIte, vcu, ↓vcd, co24]; rfl) (by simp -implicitDefEqProofs (disch := omega) only [List.any_cons, List.any_nil, Nat.reduceEqDiff, List.map_cons, List.map_nil, Option.map_some, Option.map_none, List.nil_append, ↓reduceIte, vcu, ↓vcd]; rfl) (by simp -implicitDefEqProofs (disch := omega) only [List.any_cons, List.any_nil, Nat.reduceEqDiff, List.map_cons, List.map_nil, Option.map_some, Option.map_none, List.nil_append, ↓reduceIte, vcu, ↓vcd]; exact Nat.zero_lt_succ _) v13 (by simp -implicitDefEqProofs (disch := omega) only [List.any_cons, List.any_nil, Nat.reduceEqDiff, List.map_cons, List.map_nil, Option.map_some, Option.map_none, List.nil_append, ↓reduceIte, vcu, ↓vcd]; exact Nat.le_refl _) fun τ14 k14 e14 => ?_
      replace e14 : τ14 c4 = some ⟨[.int .i64 W, .int .i64 E, .int .i64 M], false⟩ := e14
      have l14 : lds τ14 c4 0 3 = some [.int .i64 W, .int .i64 E, .int .i64 M] := lds_three (ld_of e14 rfl) (ld_of e14 rfl) (ld_of e14 rfl)
      simp -implicitDefEqProofs (disch := omega) only [List.any_cons, List.any_nil, Nat.reduceEqDiff, List.map_cons, List.map_nil, Option.map_some, Option.map_none, List.nil_append, ↓reduceIte, vcu, ↓vcd]
      refine fin_cell Try.results68 τ14 (Sub.refl _) (v := .agg #[.int .i64 W, .int .i64 E, .int .i64 M]) (by simp -implicitDefEqProofs (disch := omega) only [List.any_cons, List.any_nil, Nat.reduceEqDiff, List.map_cons, List.map_nil, Option.map_some, Option.map_none, List.nil_append, ↓reduceIte, vcu, ↓vcd, f4, l14, co24]) ⟨⟨W, E, M⟩, _, rfl, ⟨⟨by dsimp only; omega, by dsimp only; omega⟩, ⟨by dsimp only; omega, by dsimp only; omega⟩, ⟨by dsimp only; omega, by dsimp only; omega⟩⟩, by omega, by omega, d13.put k14 g4 n4⟩
    by_cases q1 : z5 = 1
    · simp -implicitDefEqProofs (disch := omega) only [List.any_cons, List.any_nil, Nat.reduceEqDiff, List.map_cons, List.map_nil, Option.map_some, Option.map_none, List.nil_append, ↓reduceIte, vcu, ↓vcd, opK_some, f0, f1, f4, f5]
      refine r_lit el37 (out := (Go.Abs.ints .i64 [0, 4]).toArray) (by first | kernel_rfl | (simp -implicitDefEqProofs (disch := omega) only [List.any_cons, List.any_nil, Nat.reduceEqDiff, List.map_cons, List.map_nil, Option.map_some, Option.map_none, List.nil_append, ↓reduceIte, vcu, ↓vcd]; kernel_rfl)) (by kernel_rfl) fun e τ11 n11 s11 v11 => ?_
      have g11 : e ≠ g := (d10.fresh n11).2
      simp -implicitDefEqProofs (disch := omega) only [List.any_cons, List.any_nil, Nat.reduceEqDiff, List.map_cons, List.map_nil, Option.map_some, Option.map_none, List.nil_append, ↓reduceIte, vcu, ↓vcd, f0]
      refine (pick_at β τ11 g h o bs _ 2 (d10.new s11).rd (by omega) (by omega)).mono ?_
      rintro r τ12 ⟨z6, rfl, a3, a4, hR, hK⟩
      have d12 := (d10.new s11).step hR hK
      have hx := intsAt_own (hK.at v11 g11) z6.toNat (by simp; omega)
      have hrw := row2 (x := 0) (y := 4) (z := z6) (by omega)
      generalize ([0, 4] : List Int).getD z6.toNat 0 = W at hx hrw
      simp -implicitDefEqProofs (disch := omega) only [List.any_cons, List.any_nil, Nat.reduceEqDiff, List.map_cons, List.map_nil, Option.map_some, Option.map_none, List.nil_append, ↓reduceIte, vcu, ↓vcd, opK_some, hx, f5]
      refine r_set (g := c5) (i := 0 + 1) (by simp -implicitDefEqProofs (disch := omega) only [List.any_cons, List.any_nil, Nat.reduceEqDiff, List.map_cons, List.map_nil, Option.map_some, Option.map_none, List.nil_append, ↓reduceIte, vcu, ↓vcd, f5]) (by simp -implicitDefEqProofs (disch := omega) only [List.any_cons, List.any_nil, Nat.reduceEqDiff, List.map_cons, List.map_nil, Option.map_some, Option.map_none, List.nil_append, ↓reduceIte, vcu, ↓vcd]; rfl) co3 (by simp -implicitDefEqProofs (disch := omega) only [List.any_cons, List.any_nil, Nat.reduceEqDiff, List.map_cons, List.map_nil, Option.map_some, Option.map_none, List.nil_append, ↓reduceIte, vcu, ↓vcd]; rfl) (hK.at (s11 _ _ e10) g5) (by simp) fun τ13 k13 e13 => ?_
      simp -implicitDefEqProofs (disch := omega) only [List.any_cons, List.any_nil, Nat.reduceEqDiff, List.map_cons, List.map_nil, Option.map_some, Option.map_none, List.nil_append, ↓reduceIte, vcu, ↓vcd] at e13
      replace e13 : τ13 c5 = some ⟨[.int .i64 X, .int .i64 W, .int .i64 M], false⟩ := e13
      have l13 : lds τ13 c5 0 3 = some [.int .i64 X, .int .i64 W, .int .i64 M] := lds_three (ld_of e13 rfl) (ld_of e13 rfl) (ld_of e13 rfl)
      have v13 := k13.at (hK.at (s11 _ _ v10) g4) c45.symm
      have d13 := d12.put k13 g5 n5
      simp -implicitDefEqProofs (disch := omega) only [List.any_cons, List.any_nil, Nat.reduceEqDiff, List.map_cons, List.map_nil, Option.map_some, Option.map_none, List.nil_append, ↓reduceIte, vcu, ↓vcd, f0, f1, f4, f5, l13, co24]
      refine r_sets (g := c4) (i := 0) (C := [.int .i64 0, .int .i64 0, .int .i64 0]) (by simp -implicitDefEqProofs (disch := omega) only [List.any_cons, List.any_nil, Nat.reduceEqDiff, List.map_cons, List.map_nil, Option.map_some, Option.map_none, List.nil_append, ↓reduceIte, vcu, ↓vcd, f4]) (by simp -implicitDefEqProofs (disch := omega) only [List.any_cons, List.any_nil, Nat.reduceEqDiff, List.map_cons, List.map_nil, Option.map_some, Option.map_none, List.nil_append, ↓reduceIte, vcu, ↓vcd, co24]; rfl) (by simp -implicitDefEqProofs (disch := omega) only [List.any_cons, List.any_nil, Nat.reduceEqDiff, List.map_cons, List.map_nil, Option.map_some, Option.map_none, List.nil_append, ↓reduceIte, vcu, ↓vcd]; rfl) (by simp -implicitDefEqProofs (disch := omega) only [List.any_cons, List.any_nil, Nat.reduceEqDiff, List.map_cons, List.map_nil, Option.map_some, Option.map_none, List.nil_append, ↓reduceIte, vcu, ↓vcd]; exact Nat.zero_lt_succ _) v13 (by simp -implicitDefEqProofs (disch := omega) only [List.any_cons, List.any_nil, Nat.reduceEqDiff, List.map_cons, List.map_nil, Option.map_some, Option.map_none, List.nil_append, ↓reduceIte, vcu, ↓vcd]; exact Nat.le_refl _) fun τ14 k14 e14 => ?_
      replace e14 : τ14 c4 = some ⟨[.int .i64 X, .int .i64 W, .int .i64 M], false⟩ := e14
      have l14 : lds τ14 c4 0 3 = some [.int .i64 X, .int .i64 W, .int .i64 M] := lds_three (ld_of e14 rfl) (ld_of e14 rfl) (ld_of e14 rfl)
      simp -implicitDefEqProofs (disch := omega) only [List.any_cons, List.any_nil, Nat.reduceEqDiff, List.map_cons, List.map_nil, Option.map_some, Option.map_none, List.nil_append, ↓reduceIte, vcu, ↓vcd]
      refine fin_cell Try.results68 τ14 (Sub.refl _) (v := .agg #[.int .i64 X, .int .i64 W, .int .i64 M]) (by simp -implicitDefEqProofs (disch := omega) only [List.any_cons, List.any_nil, Nat.reduceEqDiff, List.map_cons, List.map_nil, Option.map_some, Option.map_none, List.nil_append, ↓reduceIte, vcu, ↓vcd, f4, l14, co24]) ⟨⟨X, W, M⟩, _, rfl, ⟨⟨by dsimp only; omega, by dsimp only; omega⟩, ⟨by dsimp only; omega, by dsimp only; omega⟩, ⟨by dsimp only; omega, by dsimp only; omega⟩⟩, by omega, by omega, d13.put k14 g4 n4⟩
    · simp -implicitDefEqProofs (disch := omega) only [List.any_cons, List.any_nil, Nat.reduceEqDiff, List.map_cons, List.map_nil, Option.map_some, Option.map_none, List.nil_append, ↓reduceIte, vcu, ↓vcd, opK_some, f0, f1, f4, f5]
      refine r_lit el37 (out := (Go.Abs.ints .i64 [0, 6]).toArray) (by first | kernel_rfl | (simp -implicitDefEqProofs (disch := omega) only [List.any_cons, List.any_nil, Nat.reduceEqDiff, List.map_cons, List.map_nil, Option.map_some, Option.map_none, List.nil_append, ↓reduceIte, vcu, ↓vcd]; kernel_rfl)) (by kernel_rfl) fun e τ11 n11 s11 v11 => ?_
      have g11 : e ≠ g := (d10.fresh n11).2
      simp -implicitDefEqProofs (disch := omega) only [List.any_cons, List.any_nil, Nat.reduceEqDiff, List.map_cons, List.map_nil, Option.map_some, Option.map_none, List.nil_append, ↓reduceIte, vcu, ↓vcd, f0]
      refine (pick_at β τ11 g h o bs _ 2 (d10.new s11).rd (by omega) (by omega)).mono ?_
      rintro r τ12 ⟨z6, rfl, a3, a4, hR, hK⟩
      have d12 := (d10.new s11).step hR hK
      have hx := intsAt_own (hK.at v11 g11) z6.toNat (by simp; omega)
      have hrw := row2 (x := 0) (y := 6) (z := z6) (by omega)
      generalize ([0, 6] : List Int).getD z6.toNat 0 = W at hx hrw
      simp -implicitDefEqProofs (disch := omega) only [List.any_cons, List.any_nil, Nat.reduceEqDiff, List.map_cons, List.map_nil, Option.map_some, Option.map_none, List.nil_append, ↓reduceIte, vcu, ↓vcd, opK_some, hx, f5]
      refine r_set (g := c5) (i := 0 + 2) (by simp -implicitDefEqProofs (disch := omega) only [List.any_cons, List.any_nil, Nat.reduceEqDiff, List.map_cons, List.map_nil, Option.map_some, Option.map_none, List.nil_append, ↓reduceIte, vcu, ↓vcd, f5]) (by simp -implicitDefEqProofs (disch := omega) only [List.any_cons, List.any_nil, Nat.reduceEqDiff, List.map_cons, List.map_nil, Option.map_some, Option.map_none, List.nil_append, ↓reduceIte, vcu, ↓vcd]; rfl) co3 (by simp -implicitDefEqProofs (disch := omega) only [List.any_cons, List.any_nil, Nat.reduceEqDiff, List.map_cons, List.map_nil, Option.map_some, Option.map_none, List.nil_append, ↓reduceIte, vcu, ↓vcd]; rfl) (hK.at (s11 _ _ e10) g5) (by simp) fun τ13 k13 e13 => ?_
      simp -implicitDefEqProofs (disch := omega) only [List.any_cons, List.any_nil, Nat.reduceEqDiff, List.map_cons, List.map_nil, Option.map_some, Option.map_none, List.nil_append, ↓reduceIte, vcu, ↓vcd] at e13
      replace e13 : τ13 c5 = some ⟨[.int .i64 X, .int .i64 E, .int .i64 W], false⟩ := e13
      have l13 : lds τ13 c5 0 3 = some [.int .i64 X, .int .i64 E, .int .i64 W] := lds_three (ld_of e13 rfl) (ld_of e13 rfl) (ld_of e13 rfl)
      have v13 := k13.at (hK.at (s11 _ _ v10) g4) c45.symm
      have d13 := d12.put k13 g5 n5
      simp -implicitDefEqProofs (disch := omega) only [List.any_cons, List.any_nil, Nat.reduceEqDiff, List.map_cons, List.map_nil, Option.map_some, Option.map_none, List.nil_append, ↓reduceIte, vcu, ↓vcd, f0, f1, f4, f5, l13, co24]
      refine r_sets (g := c4) (i := 0) (C := [.int .i64 0, .int .i64 0, .int .i64 0]) (by simp -implicitDefEqProofs (disch := omega) only [List.any_cons, List.any_nil, Nat.reduceEqDiff, List.map_cons, List.map_nil, Option.map_some, Option.map_none, List.nil_append, ↓reduceIte, vcu, ↓vcd, f4]) (by simp -implicitDefEqProofs (disch := omega) only [List.any_cons, List.any_nil, Nat.reduceEqDiff, List.map_cons, List.map_nil, Option.map_some, Option.map_none, List.nil_append, ↓reduceIte, vcu, ↓vcd, co24]; rfl) (by simp -implicitDefEqProofs (disch := omega) only [List.any_cons, List.any_nil, Nat.reduceEqDiff, List.map_cons, List.map_nil, Option.map_some, Option.map_none, List.nil_append, ↓reduceIte, vcu, ↓vcd]; rfl) (by simp -implicitDefEqProofs (disch := omega) only [List.any_cons, List.any_nil, Nat.reduceEqDiff, List.map_cons, List.map_nil, Option.map_some, Option.map_none, List.nil_append, ↓reduceIte, vcu, ↓vcd]; exact Nat.zero_lt_succ _) v13 (by simp -implicitDefEqProofs (disch := omega) only [List.any_cons, List.any_nil, Nat.reduceEqDiff, List.map_cons, List.map_nil, Option.map_some, Option.map_none, List.nil_append, ↓reduceIte, vcu, ↓vcd]; exact Nat.le_refl _) fun τ14 k14 e14 => ?_
      replace e14 : τ14 c4 = some ⟨[.int .i64 X, .int .i64 E, .int .i64 W], false⟩ := e14
      have l14 : lds τ14 c4 0 3 = some [.int .i64 X, .int .i64 E, .int .i64 W] := lds_three (ld_of e14 rfl) (ld_of e14 rfl) (ld_of e14 rfl)
      simp -implicitDefEqProofs (disch := omega) only [List.any_cons, List.any_nil, Nat.reduceEqDiff, List.map_cons, List.map_nil, Option.map_some, Option.map_none, List.nil_append, ↓reduceIte, vcu, ↓vcd]
      refine fin_cell Try.results68 τ14 (Sub.refl _) (v := .agg #[.int .i64 X, .int .i64 E, .int .i64 W]) (by simp -implicitDefEqProofs (disch := omega) only [List.any_cons, List.any_nil, Nat.reduceEqDiff, List.map_cons, List.map_nil, Option.map_some, Option.map_none, List.nil_append, ↓reduceIte, vcu, ↓vcd, f4, l14, co24]) ⟨⟨X, E, W⟩, _, rfl, ⟨⟨by dsimp only; omega, by dsimp only; omega⟩, ⟨by dsimp only; omega, by dsimp only; omega⟩, ⟨by dsimp only; omega, by dsimp only; omega⟩⟩, by omega, by omega, d13.put k14 g4 n4⟩
end Go.Proofs.Ytphacjkogompoaa

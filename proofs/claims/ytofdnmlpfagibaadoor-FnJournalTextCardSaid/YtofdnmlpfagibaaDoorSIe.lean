/- Parts. -/
import Derived.Test.YtofdnmlpfagibaaDoorSId
set_option linter.unusedSimpArgs false
set_option linter.unusedVariables false
set_option linter.unusedSectionVars false
namespace Go.Proofs.YtofdnmlpfagibaaDoor
open Go Go.Abs Go.RowKit Go.Dial Go.Clos
variable {w0 : World}
theorem acodeB_monoX {P : Program} {b : Base} {n : NR} {c : Code} {a : AFrame} {σ : AHeap} {Q Q' : AQ} (h : ACodeB P b n c a σ Q') (hq : ∀ e a σ, Q' e a σ → Q e a σ) : ACodeB P b n c a σ Q := ACode.mono h hq
set_option maxRecDepth 8000 in
theorem copyX_rows (σ : AHeap) (v : Value) (e : Ex) (hv : ExV σ v e) (hb : ExB e) :
  ACall Tryd.prog w0 54 [v] σ fun r σ' => ∃ g1 g2, r = exV (.slice (some ⟨g1, 0, none⟩) e.ps.length 1) (.slice (some ⟨g2, 0, none⟩) e.cs.length 3) e ∧ Sub σ σ' ∧ σ' g1 = some ⟨texts e.ps, false⟩ ∧ σ' g2 = some ⟨tris e.cs, false⟩ ∧ σ g1 = none ∧ σ g2 = none := by
 obtain ⟨⟨O, E, M⟩, ps, cs⟩ := e
 obtain ⟨v1, v2, rfl, t1, t2⟩ := hv
 obtain ⟨b1, b2, b3⟩ := hb
 dsimp only at t1 t2 b1 b2 b3
 unfold exV
 refine acall_goc mixed Tryd.func54 rfl goodc54 fun pr => ?_
 simp -implicitDefEqProofs (disch := omega) only [Nat.reduceEqDiff, ↓reduceIte, vcu, ↓vcd]
 refine r_boxed fun b τ1 nb s1 e1 => ?_
 replace e1 : τ1 b = some ⟨[.int .i64 O, .int .i64 E, .int .i64 M, v1, v2], false⟩ := e1
 refine r_new ze46 fun h2 τ n2 s2 e2 => ?_
 replace e2 : τ h2 = some ⟨[.int .i64 0, .int .i64 0, .int .i64 0, .slice none 0 0, .slice none 0 0], false⟩ := e2
 replace e1 := s2 _ _ e1
 have s12 := s1.trans s2
 have z2 : σ h2 = none := free_sub s1 n2
 replace t1 := t1.sub s12
 replace t2 := t2.sub s12
 have x0 : lds τ b 0 3 = some [.int .i64 O, .int .i64 E, .int .i64 M] := lds_three (ld_of e1 rfl) (ld_of e1 rfl) (ld_of e1 rfl)
 have x3 : ld τ b (0 + 3) = some v1 := ld_of e1 rfl
 have x4 : ld τ b (0 + 4) = some v2 := ld_of e1 rfl
 simp -implicitDefEqProofs (disch := omega) only [Nat.reduceEqDiff, ↓reduceIte, vcu, ↓vcd]
 refine acodeB_monoX (Q' := fun e a' τ' => e = .normal ∧ a' 2 = .pointer (some ⟨h2, 0, none⟩) ∧ ∃ g1 g2, Sub σ τ' ∧ τ' h2 = some ⟨[.int .i64 O, .int .i64 E, .int .i64 M, .slice (some ⟨g1, 0, none⟩) ps.length 1, .slice (some ⟨g2, 0, none⟩) cs.length 3], false⟩ ∧ τ' g1 = some ⟨texts ps, false⟩ ∧ τ' g2 = some ⟨tris cs, false⟩ ∧ σ g1 = none ∧ σ g2 = none)
  (region_tree mixed (quiets [0, 3, 7] (quiets [1, 4, 8] (.two 2 (.two 5 (.one 6 (.one 9 (quiets [10] (.one 11 .stop)))) 6 (.one 5 (.one 9 (quiets [10] (.one 11 .stop))))) 6 (.one 2 (.one 5 (.one 9 (quiets [10] (.one 11 .stop)))))))) [([1, 4, 8], Sub τ)] (by kernel_rfl) (by kernel_rfl) (fun p hp => by simp only [List.mem_singleton] at hp; subst hp; exact Sub.refl _) ?_) ?_
 ·refine tree_quiets _ _ _ _ sf0 (by kernel_rfl) (by kernel_rfl) ?_
  simp -implicitDefEqProofs (disch := omega) only [Nat.reduceEqDiff, ↓reduceIte, vcu, ↓vcd, pickOps_nil, pickOps_cons, pickO_some, List.getElem?_cons_succ, List.getElem?_cons_zero, Nat.add_zero]
  refine tree_quiets τ _ _ _ sf1 (by kernel_rfl) (by kernel_rfl) ?_
  simp -implicitDefEqProofs (disch := omega) only [Nat.reduceEqDiff, ↓reduceIte, vcu, ↓vcd, pickOps_nil, pickOps_cons, pickO_some, List.getElem?_cons_succ, List.getElem?_cons_zero, x0, x3, x4, co42, Nat.add_zero]
  refine tree_two rfl rfl ?_ ?_
  ·try simp -implicitDefEqProofs (disch := omega) only [Nat.reduceEqDiff, ↓reduceIte, vcu, ↓vcd]
   refine r_lit el43 (out := #[]) (by kernel_rfl) (by kernel_rfl) fun e1 T2 n3 s4 v5 => ?_
   replace v5 : T2 e1 = some ⟨texts [], false⟩ := v5
   simp -implicitDefEqProofs (disch := omega) only [Nat.reduceEqDiff, ↓reduceIte, vcu, ↓vcd]
   have z6 := free_sub (Sub.refl τ) n3
   have f7 := s4 _ _ e2
   have S8 := (Sub.refl τ).trans s4
   refine ⟨keep_of rfl (fun p hp => by simp only [List.mem_singleton] at hp; subst hp; exact .inr S8), ?_⟩
   refine tree_two rfl rfl ?_ ?_
   ·try simp -implicitDefEqProofs (disch := omega) only [Nat.reduceEqDiff, ↓reduceIte, vcu, ↓vcd]
    refine r_pushXV (g := e1) (len := 0) (xs := []) (ys := ps) el43 (by omega) sl43 z9q v5 rfl (by simp -implicitDefEqProofs (disch := omega) only [Nat.reduceEqDiff, ↓reduceIte, vcu, ↓vcd]; exact t1.sub S8) (by omega) fun g9 T10 n11 k12 w13 => ?_
    rw [List.nil_append] at w13
    simp -implicitDefEqProofs (disch := omega) only [Nat.reduceEqDiff, ↓reduceIte, vcu, ↓vcd, Nat.zero_add]
    have z14 := free_sub S8 n11
    have S15 := k12.sub S8 z6
    have f16 := k12.at f7 (ne_of' n3 e2)
    refine ⟨keep_of rfl (fun p hp => by simp only [List.mem_singleton] at hp; subst hp; exact .inr S15), ?_⟩
    refine tree_one rfl ?_
    refine r_lit el44 (out := #[]) (by kernel_rfl) (by kernel_rfl) fun e17 T18 n19 s20 v21 => ?_
    replace v21 : T18 e17 = some ⟨tris [], false⟩ := v21
    simp -implicitDefEqProofs (disch := omega) only [Nat.reduceEqDiff, ↓reduceIte, vcu, ↓vcd]
    have z22 := free_sub S15 n19
    have f23 := s20 _ _ f16
    have f24 := s20 _ _ w13
    have S25 := S15.trans s20
    refine ⟨keep_of rfl (fun p hp => by simp only [List.mem_singleton] at hp; subst hp; exact .inr S25), ?_⟩
    refine tree_one rfl ?_
    refine r_pushCV (g := e17) (len := 0) (xs := []) (ys := cs) el44 (by omega) sl44 z9q v21 rfl (by simp -implicitDefEqProofs (disch := omega) only [Nat.reduceEqDiff, ↓reduceIte, vcu, ↓vcd]; exact t2.sub S25) (by omega) fun g26 T27 n28 k29 w30 => ?_
    rw [List.nil_append] at w30
    simp -implicitDefEqProofs (disch := omega) only [Nat.reduceEqDiff, ↓reduceIte, vcu, ↓vcd, Nat.zero_add]
    have z31 := free_sub S25 n28
    have S32 := k29.sub S25 z22
    have f33 := k29.at f23 (ne_of' n19 f16)
    have f34 := k29.at f24 (ne_of' n19 w13)
    refine ⟨keep_of rfl (fun p hp => by simp only [List.mem_singleton] at hp; subst hp; exact .inr S32), ?_⟩
    refine tree_quiets _ _ _ _ sf0 (by kernel_rfl) (by kernel_rfl) ?_
    simp -implicitDefEqProofs (disch := omega) only [Nat.reduceEqDiff, ↓reduceIte, vcu, ↓vcd, pickOps_nil, pickOps_cons, pickO_some, List.getElem?_cons_succ, List.getElem?_cons_zero]
    rw [r_build]
    refine ⟨(_, #[.int .i64 O, .int .i64 E, .int .i64 M, .slice (some ⟨g9, 0, none⟩) ps.length 1, .slice (some ⟨g26, 0, none⟩) cs.length 3]), ⟨ze46, by simp -implicitDefEqProofs (disch := omega) only [Nat.reduceEqDiff, ↓reduceIte, vcu, ↓vcd]; kernel_rfl⟩, ?_⟩
    simp -implicitDefEqProofs (disch := omega) only [Nat.reduceEqDiff, ↓reduceIte, vcu, ↓vcd]
    refine tree_one rfl ?_
    refine r_sets (g := h2) (i := 0) (C := [.int .i64 0, .int .i64 0, .int .i64 0, .slice none 0 0, .slice none 0 0]) z9q z9co46 z9r z9z f33 z9l fun T35 k36 e37 => ?_
    replace e37 : T35 h2 = some ⟨[.int .i64 O, .int .i64 E, .int .i64 M, .slice (some ⟨g9, 0, none⟩) ps.length 1, .slice (some ⟨g26, 0, none⟩) cs.length 3], false⟩ := e37
    have q39 := k36.at f34 (ne_of n11 f7)
    have q40 := k36.at w30 (ne_of n28 f23)
    have S38 : Sub σ T35 := k36.sub (s12.trans S32) z2
    simp -implicitDefEqProofs (disch := omega) only [Nat.reduceEqDiff, ↓reduceIte, vcu, ↓vcd]
    refine ⟨keep_of rfl (fun p hp => by simp only [List.mem_singleton] at hp; subst hp; exact .inl (by kernel_rfl)), ?_⟩
    refine tree_stop ?_
    exact ⟨by first | trivial | rfl, by first | trivial | rfl | simp -implicitDefEqProofs (disch := omega) only [Nat.reduceEqDiff, ↓reduceIte, vcu, ↓vcd], g9, g26, S38, e37, q39, q40, free_sub s12 z14, free_sub s12 z31⟩
   ·try simp -implicitDefEqProofs (disch := omega) only [Nat.reduceEqDiff, ↓reduceIte, vcu, ↓vcd]
    refine r_lit el44 (out := #[]) (by kernel_rfl) (by kernel_rfl) fun e41 T42 n43 s44 v45 => ?_
    replace v45 : T42 e41 = some ⟨tris [], false⟩ := v45
    simp -implicitDefEqProofs (disch := omega) only [Nat.reduceEqDiff, ↓reduceIte, vcu, ↓vcd]
    have z46 := free_sub S8 n43
    have f47 := s44 _ _ f7
    have f48 := s44 _ _ v5
    have S49 := S8.trans s44
    refine ⟨keep_of rfl (fun p hp => by simp only [List.mem_singleton] at hp; subst hp; exact .inr S49), ?_⟩
    refine tree_one rfl ?_
    refine r_pushXV (g := e1) (len := 0) (xs := []) (ys := ps) el43 (by omega) sl43 z9q f48 rfl (by simp -implicitDefEqProofs (disch := omega) only [Nat.reduceEqDiff, ↓reduceIte, vcu, ↓vcd]; exact t1.sub S49) (by omega) fun g50 T51 n52 k53 w54 => ?_
    rw [List.nil_append] at w54
    simp -implicitDefEqProofs (disch := omega) only [Nat.reduceEqDiff, ↓reduceIte, vcu, ↓vcd, Nat.zero_add]
    have z55 := free_sub S49 n52
    have S56 := k53.sub S49 z6
    have f57 := k53.at f47 (ne_of' n3 e2)
    have f58 := k53.at v45 (ne_of n43 v5)
    refine ⟨keep_of rfl (fun p hp => by simp only [List.mem_singleton] at hp; subst hp; exact .inr S56), ?_⟩
    refine tree_one rfl ?_
    refine r_pushCV (g := e41) (len := 0) (xs := []) (ys := cs) el44 (by omega) sl44 z9q f58 rfl (by simp -implicitDefEqProofs (disch := omega) only [Nat.reduceEqDiff, ↓reduceIte, vcu, ↓vcd]; exact t2.sub S56) (by omega) fun g59 T60 n61 k62 w63 => ?_
    rw [List.nil_append] at w63
    simp -implicitDefEqProofs (disch := omega) only [Nat.reduceEqDiff, ↓reduceIte, vcu, ↓vcd, Nat.zero_add]
    have z64 := free_sub S56 n61
    have S65 := k62.sub S56 z46
    have f66 := k62.at f57 (ne_of' n43 f7)
    have f67 := k62.at w54 (ne_of n52 v45)
    refine ⟨keep_of rfl (fun p hp => by simp only [List.mem_singleton] at hp; subst hp; exact .inr S65), ?_⟩
    refine tree_quiets _ _ _ _ sf0 (by kernel_rfl) (by kernel_rfl) ?_
    simp -implicitDefEqProofs (disch := omega) only [Nat.reduceEqDiff, ↓reduceIte, vcu, ↓vcd, pickOps_nil, pickOps_cons, pickO_some, List.getElem?_cons_succ, List.getElem?_cons_zero]
    rw [r_build]
    refine ⟨(_, #[.int .i64 O, .int .i64 E, .int .i64 M, .slice (some ⟨g50, 0, none⟩) ps.length 1, .slice (some ⟨g59, 0, none⟩) cs.length 3]), ⟨ze46, by simp -implicitDefEqProofs (disch := omega) only [Nat.reduceEqDiff, ↓reduceIte, vcu, ↓vcd]; kernel_rfl⟩, ?_⟩
    simp -implicitDefEqProofs (disch := omega) only [Nat.reduceEqDiff, ↓reduceIte, vcu, ↓vcd]
    refine tree_one rfl ?_
    refine r_sets (g := h2) (i := 0) (C := [.int .i64 0, .int .i64 0, .int .i64 0, .slice none 0 0, .slice none 0 0]) z9q z9co46 z9r z9z f66 z9l fun T68 k69 e70 => ?_
    replace e70 : T68 h2 = some ⟨[.int .i64 O, .int .i64 E, .int .i64 M, .slice (some ⟨g50, 0, none⟩) ps.length 1, .slice (some ⟨g59, 0, none⟩) cs.length 3], false⟩ := e70
    have q72 := k69.at f67 (ne_of n52 f47)
    have q73 := k69.at w63 (ne_of n61 f57)
    have S71 : Sub σ T68 := k69.sub (s12.trans S65) z2
    simp -implicitDefEqProofs (disch := omega) only [Nat.reduceEqDiff, ↓reduceIte, vcu, ↓vcd]
    refine ⟨keep_of rfl (fun p hp => by simp only [List.mem_singleton] at hp; subst hp; exact .inl (by kernel_rfl)), ?_⟩
    refine tree_stop ?_
    exact ⟨by first | trivial | rfl, by first | trivial | rfl | simp -implicitDefEqProofs (disch := omega) only [Nat.reduceEqDiff, ↓reduceIte, vcu, ↓vcd], g50, g59, S71, e70, q72, q73, free_sub s12 z55, free_sub s12 z64⟩
  ·try simp -implicitDefEqProofs (disch := omega) only [Nat.reduceEqDiff, ↓reduceIte, vcu, ↓vcd]
   refine r_lit el44 (out := #[]) (by kernel_rfl) (by kernel_rfl) fun e74 T75 n76 s77 v78 => ?_
   replace v78 : T75 e74 = some ⟨tris [], false⟩ := v78
   simp -implicitDefEqProofs (disch := omega) only [Nat.reduceEqDiff, ↓reduceIte, vcu, ↓vcd]
   have z79 := free_sub (Sub.refl τ) n76
   have f80 := s77 _ _ e2
   have S81 := (Sub.refl τ).trans s77
   refine ⟨keep_of rfl (fun p hp => by simp only [List.mem_singleton] at hp; subst hp; exact .inr S81), ?_⟩
   refine tree_one rfl ?_
   refine r_lit el43 (out := #[]) (by kernel_rfl) (by kernel_rfl) fun e82 T83 n84 s85 v86 => ?_
   replace v86 : T83 e82 = some ⟨texts [], false⟩ := v86
   simp -implicitDefEqProofs (disch := omega) only [Nat.reduceEqDiff, ↓reduceIte, vcu, ↓vcd]
   have z87 := free_sub S81 n84
   have f88 := s85 _ _ f80
   have f89 := s85 _ _ v78
   have S90 := S81.trans s85
   refine ⟨keep_of rfl (fun p hp => by simp only [List.mem_singleton] at hp; subst hp; exact .inr S90), ?_⟩
   refine tree_one rfl ?_
   refine r_pushXV (g := e82) (len := 0) (xs := []) (ys := ps) el43 (by omega) sl43 z9q v86 rfl (by simp -implicitDefEqProofs (disch := omega) only [Nat.reduceEqDiff, ↓reduceIte, vcu, ↓vcd]; exact t1.sub S90) (by omega) fun g91 T92 n93 k94 w95 => ?_
   rw [List.nil_append] at w95
   simp -implicitDefEqProofs (disch := omega) only [Nat.reduceEqDiff, ↓reduceIte, vcu, ↓vcd, Nat.zero_add]
   have z96 := free_sub S90 n93
   have S97 := k94.sub S90 z87
   have f98 := k94.at f88 (ne_of' n84 f80)
   have f99 := k94.at f89 (ne_of' n84 v78)
   refine ⟨keep_of rfl (fun p hp => by simp only [List.mem_singleton] at hp; subst hp; exact .inr S97), ?_⟩
   refine tree_one rfl ?_
   refine r_pushCV (g := e74) (len := 0) (xs := []) (ys := cs) el44 (by omega) sl44 z9q f99 rfl (by simp -implicitDefEqProofs (disch := omega) only [Nat.reduceEqDiff, ↓reduceIte, vcu, ↓vcd]; exact t2.sub S97) (by omega) fun g100 T101 n102 k103 w104 => ?_
   rw [List.nil_append] at w104
   simp -implicitDefEqProofs (disch := omega) only [Nat.reduceEqDiff, ↓reduceIte, vcu, ↓vcd, Nat.zero_add]
   have z105 := free_sub S97 n102
   have S106 := k103.sub S97 z79
   have f107 := k103.at f98 (ne_of' n76 e2)
   have f108 := k103.at w95 (ne_of n93 f89)
   refine ⟨keep_of rfl (fun p hp => by simp only [List.mem_singleton] at hp; subst hp; exact .inr S106), ?_⟩
   refine tree_quiets _ _ _ _ sf0 (by kernel_rfl) (by kernel_rfl) ?_
   simp -implicitDefEqProofs (disch := omega) only [Nat.reduceEqDiff, ↓reduceIte, vcu, ↓vcd, pickOps_nil, pickOps_cons, pickO_some, List.getElem?_cons_succ, List.getElem?_cons_zero]
   rw [r_build]
   refine ⟨(_, #[.int .i64 O, .int .i64 E, .int .i64 M, .slice (some ⟨g91, 0, none⟩) ps.length 1, .slice (some ⟨g100, 0, none⟩) cs.length 3]), ⟨ze46, by simp -implicitDefEqProofs (disch := omega) only [Nat.reduceEqDiff, ↓reduceIte, vcu, ↓vcd]; kernel_rfl⟩, ?_⟩
   simp -implicitDefEqProofs (disch := omega) only [Nat.reduceEqDiff, ↓reduceIte, vcu, ↓vcd]
   refine tree_one rfl ?_
   refine r_sets (g := h2) (i := 0) (C := [.int .i64 0, .int .i64 0, .int .i64 0, .slice none 0 0, .slice none 0 0]) z9q z9co46 z9r z9z f107 z9l fun T109 k110 e111 => ?_
   replace e111 : T109 h2 = some ⟨[.int .i64 O, .int .i64 E, .int .i64 M, .slice (some ⟨g91, 0, none⟩) ps.length 1, .slice (some ⟨g100, 0, none⟩) cs.length 3], false⟩ := e111
   have q113 := k110.at f108 (ne_of n93 f88)
   have q114 := k110.at w104 (ne_of n102 f98)
   have S112 : Sub σ T109 := k110.sub (s12.trans S106) z2
   simp -implicitDefEqProofs (disch := omega) only [Nat.reduceEqDiff, ↓reduceIte, vcu, ↓vcd]
   refine ⟨keep_of rfl (fun p hp => by simp only [List.mem_singleton] at hp; subst hp; exact .inl (by kernel_rfl)), ?_⟩
   refine tree_stop ?_
   exact ⟨by first | trivial | rfl, by first | trivial | rfl | simp -implicitDefEqProofs (disch := omega) only [Nat.reduceEqDiff, ↓reduceIte, vcu, ↓vcd], g91, g100, S112, e111, q113, q114, free_sub s12 z96, free_sub s12 z105⟩
 ·rintro _ a τ' ⟨rfl, q2, g1, g2, S, w0', w1, w2, z1, z3⟩
  have l5 : lds τ' h2 0 5 = some [.int .i64 O, .int .i64 E, .int .i64 M, .slice (some ⟨g1, 0, none⟩) ps.length 1, .slice (some ⟨g2, 0, none⟩) cs.length 3] := by rw [lds_of w0' (by simp)]; rfl
  simp -implicitDefEqProofs (disch := omega) only [Nat.reduceEqDiff, ↓reduceIte, vcu, ↓vcd, q2]
  refine fin_cell Tryd.results54 τ' (Sub.refl _) (v := exV (.slice (some ⟨g1, 0, none⟩) ps.length 1) (.slice (some ⟨g2, 0, none⟩) cs.length 3) ⟨⟨O, E, M⟩, ps, cs⟩) (by simp -implicitDefEqProofs (disch := omega) only [Nat.reduceEqDiff, ↓reduceIte, vcu, ↓vcd, q2, l5, co46]; rfl) ⟨g1, g2, rfl, S, w1, w2, z1, z3⟩
end Go.Proofs.YtofdnmlpfagibaaDoor
namespace Go.Proofs.YtofdnmlpfagibaaDoor
open Go Go.Abs Go.RowKit Go.Dial Go.Clos
variable {w0 : World}
/-- a new exchange -/
def newX (s : Sp) (ps : List (List UInt8)) : Ex := if ExOk ⟨s, ps, []⟩ then ⟨s, ps, []⟩ else ex0
set_option maxRecDepth 8000 in
theorem newX_calls (σ : AHeap) (s : Sp) (v1 : Value) (ps : List (List UInt8)) (t1 : Texts σ v1 ps) (b1 : ps.length ≤ 1048576) (b2 : ∀ x ∈ ps, x.length ≤ 1048576) :
  ACall Tryd.prog w0 40 [.agg #[.int .i64 s.O, .int .i64 s.E, .int .i64 s.M], v1] σ fun r σ' => Sub σ σ' ∧ OwnX σ σ' r (newX s ps) := by
 obtain ⟨O, E, M⟩ := s
 refine acall_goc mixed Tryd.func40 rfl goodc40 fun pr => ?_
 simp -implicitDefEqProofs (disch := omega) only [Nat.reduceEqDiff, ↓reduceIte, vcu, ↓vcd]
 refine r_boxed fun b τ1 nb s1 e1 => ?_
 replace e1 : τ1 b = some ⟨[.int .i64 O, .int .i64 E, .int .i64 M], false⟩ := e1
 refine r_new ze46 fun h4 τ n2 s2 e2 => ?_
 replace e2 : τ h4 = some ⟨[.int .i64 0, .int .i64 0, .int .i64 0, .slice none 0 0, .slice none 0 0], false⟩ := e2
 replace e1 := s2 _ _ e1
 have s12 := s1.trans s2
 have z2 : σ h4 = none := free_sub s1 n2
 replace t1 := t1.sub s12
 have x0 : lds τ b 0 3 = some [.int .i64 O, .int .i64 E, .int .i64 M] := lds_three (ld_of e1 rfl) (ld_of e1 rfl) (ld_of e1 rfl)
 simp -implicitDefEqProofs (disch := omega) only [Nat.reduceEqDiff, ↓reduceIte, vcu, ↓vcd]
 refine acodeB_monoX (Q' := fun e a' τ' => e = .normal ∧ ∃ g1 g2 h5, a' 5 = .pointer (some ⟨h5, 0, none⟩) ∧ a' 4 = .pointer (some ⟨h4, 0, none⟩) ∧ Sub τ τ' ∧ τ' h5 = some ⟨[.int .i64 O, .int .i64 E, .int .i64 M, .slice (some ⟨g1, 0, none⟩) ps.length 1, .slice (some ⟨g2, 0, none⟩) 0 3], false⟩ ∧ τ' g1 = some ⟨texts ps, false⟩ ∧ τ' g2 = some ⟨tris [], false⟩ ∧ τ g1 = none ∧ τ g2 = none)
  (region_tree mixed (quiets [2] (quiets [0] (.three 1 (.three 3 (.two 4 (quiets [5] (.one 6 (.one 7 .stop))) 6 (.one 4 (quiets [5] (.one 7 .stop)))) 4 (.two 3 (quiets [5] (.one 6 (.one 7 .stop))) 6 (.one 3 (quiets [5] (.one 7 .stop)))) 6 (.two 3 (.one 4 (quiets [5] (.one 7 .stop))) 4 (.one 3 (quiets [5] (.one 7 .stop))))) 4 (.two 1 (.two 3 (quiets [5] (.one 6 (.one 7 .stop))) 6 (.one 3 (quiets [5] (.one 7 .stop)))) 6 (.one 1 (.one 3 (quiets [5] (.one 7 .stop))))) 6 (.two 1 (.two 3 (.one 4 (quiets [5] (.one 7 .stop))) 4 (.one 3 (quiets [5] (.one 7 .stop)))) 4 (.one 1 (.one 3 (quiets [5] (.one 7 .stop)))))))) [([0], Sub τ)] (by kernel_rfl) (by kernel_rfl) (fun p hp => by simp only [List.mem_singleton] at hp; subst hp; exact Sub.refl _) ?_) ?_
 ·refine tree_quiets _ _ _ _ sf0 (by kernel_rfl) (by kernel_rfl) ?_
  simp -implicitDefEqProofs (disch := omega) only [Nat.reduceEqDiff, ↓reduceIte, vcu, ↓vcd, pickOps_nil, pickOps_cons, pickO_some, List.getElem?_cons_succ, List.getElem?_cons_zero]
  refine tree_quiets τ _ _ _ sf1 (by kernel_rfl) (by kernel_rfl) ?_
  simp -implicitDefEqProofs (disch := omega) only [Nat.reduceEqDiff, ↓reduceIte, vcu, ↓vcd, pickOps_nil, pickOps_cons, pickO_some, List.getElem?_cons_succ, List.getElem?_cons_zero, x0, co42]
  refine tree_three rfl rfl rfl ?_ ?_ ?_
  ·try simp -implicitDefEqProofs (disch := omega) only [Nat.reduceEqDiff, ↓reduceIte, vcu, ↓vcd]
   refine r_lit el43 (out := #[]) (by kernel_rfl) (by kernel_rfl) fun e1 T2 n3 s4 v5 => ?_
   replace v5 : T2 e1 = some ⟨texts [], false⟩ := v5
   simp -implicitDefEqProofs (disch := omega) only [Nat.reduceEqDiff, ↓reduceIte, vcu, ↓vcd]
   have z6 := free_sub (Sub.refl τ) n3
   have f7 := s4 _ _ e2
   have S8 := (Sub.refl τ).trans s4
   refine ⟨keep_of rfl (fun p hp => by simp only [List.mem_singleton] at hp; subst hp; exact .inr S8), ?_⟩
   refine tree_three rfl rfl rfl ?_ ?_ ?_
   ·try simp -implicitDefEqProofs (disch := omega) only [Nat.reduceEqDiff, ↓reduceIte, vcu, ↓vcd]
    refine r_pushXV (g := e1) (len := 0) (xs := []) (ys := ps) el43 (by omega) sl43 z9q v5 rfl (by simp -implicitDefEqProofs (disch := omega) only [Nat.reduceEqDiff, ↓reduceIte, vcu, ↓vcd]; exact t1.sub S8) (by omega) fun g9 T10 n11 k12 w13 => ?_
    rw [List.nil_append] at w13
    simp -implicitDefEqProofs (disch := omega) only [Nat.reduceEqDiff, ↓reduceIte, vcu, ↓vcd, Nat.zero_add]
    have z14 := free_sub S8 n11
    have S15 := k12.sub S8 z6
    have f16 := k12.at f7 (ne_of' n3 e2)
    refine ⟨keep_of rfl (fun p hp => by simp only [List.mem_singleton] at hp; subst hp; exact .inr S15), ?_⟩
    refine tree_two rfl rfl ?_ ?_
    ·try simp -implicitDefEqProofs (disch := omega) only [Nat.reduceEqDiff, ↓reduceIte, vcu, ↓vcd]
     refine r_lit el44 (out := #[]) (by kernel_rfl) (by kernel_rfl) fun e17 T18 n19 s20 v21 => ?_
     replace v21 : T18 e17 = some ⟨tris [], false⟩ := v21
     simp -implicitDefEqProofs (disch := omega) only [Nat.reduceEqDiff, ↓reduceIte, vcu, ↓vcd]
     have z22 := free_sub S15 n19
     have f23 := s20 _ _ f16
     have f24 := s20 _ _ w13
     have S25 := S15.trans s20
     refine ⟨keep_of rfl (fun p hp => by simp only [List.mem_singleton] at hp; subst hp; exact .inr S25), ?_⟩
     refine tree_quiets _ _ _ _ sf0 (by kernel_rfl) (by kernel_rfl) ?_
     simp -implicitDefEqProofs (disch := omega) only [Nat.reduceEqDiff, ↓reduceIte, vcu, ↓vcd, pickOps_nil, pickOps_cons, pickO_some, List.getElem?_cons_succ, List.getElem?_cons_zero]
     rw [r_build]
     refine ⟨(_, #[.int .i64 O, .int .i64 E, .int .i64 M, .slice (some ⟨g9, 0, none⟩) ps.length 1, .slice (some ⟨e17, 0, none⟩) 0 3]), ⟨ze46, by simp -implicitDefEqProofs (disch := omega) only [Nat.reduceEqDiff, ↓reduceIte, vcu, ↓vcd]; kernel_rfl⟩, ?_⟩
     try simp -implicitDefEqProofs (disch := omega) only [Nat.reduceEqDiff, ↓reduceIte, vcu, ↓vcd]
     refine tree_one rfl ?_
     try simp -implicitDefEqProofs (disch := omega) only [Nat.reduceEqDiff, ↓reduceIte, vcu, ↓vcd]
     refine r_new ze46 fun h26 T27 n28 s29 e30 => ?_
     replace e30 : T27 h26 = some ⟨[.int .i64 0, .int .i64 0, .int .i64 0, .slice none 0 0, .slice none 0 0], false⟩ := e30
     simp -implicitDefEqProofs (disch := omega) only [Nat.reduceEqDiff, ↓reduceIte, vcu, ↓vcd]
     have z31 := free_sub S25 n28
     have f32 := s29 _ _ f23
     have f33 := s29 _ _ f24
     have f34 := s29 _ _ v21
     have S35 := S25.trans s29
     refine ⟨keep_of rfl (fun p hp => by simp only [List.mem_singleton] at hp; subst hp; exact .inr S35), ?_⟩
     refine tree_one rfl ?_
     refine r_sets (g := h26) (i := 0) (C := [.int .i64 0, .int .i64 0, .int .i64 0, .slice none 0 0, .slice none 0 0]) z9q z9co46 z9r z9z e30 z9l fun T36 k37 e38 => ?_
     replace e38 : T36 h26 = some ⟨[.int .i64 O, .int .i64 E, .int .i64 M, .slice (some ⟨g9, 0, none⟩) ps.length 1, .slice (some ⟨e17, 0, none⟩) 0 3], false⟩ := e38
     have q39 := k37.at f33 (ne_of' n28 f24)
     have q40 := k37.at f34 (ne_of' n28 v21)
     have q41 := k37.at f32 (ne_of' n28 f23)
     have S42 : Sub τ T36 := k37.sub S35 z31
     simp -implicitDefEqProofs (disch := omega) only [Nat.reduceEqDiff, ↓reduceIte, vcu, ↓vcd]
     refine ⟨keep_of rfl (fun p hp => by simp only [List.mem_singleton] at hp; subst hp; exact .inr S42), ?_⟩
     refine tree_stop ?_
     exact ⟨by first | trivial | rfl, g9, e17, h26, by first | trivial | rfl | simp -implicitDefEqProofs (disch := omega) only [Nat.reduceEqDiff, ↓reduceIte, vcu, ↓vcd], by first | trivial | rfl | simp -implicitDefEqProofs (disch := omega) only [Nat.reduceEqDiff, ↓reduceIte, vcu, ↓vcd], S42, e38, q39, q40, z14, z22⟩
    ·try simp -implicitDefEqProofs (disch := omega) only [Nat.reduceEqDiff, ↓reduceIte, vcu, ↓vcd]
     refine r_new ze46 fun h43 T44 n45 s46 e47 => ?_
     replace e47 : T44 h43 = some ⟨[.int .i64 0, .int .i64 0, .int .i64 0, .slice none 0 0, .slice none 0 0], false⟩ := e47
     simp -implicitDefEqProofs (disch := omega) only [Nat.reduceEqDiff, ↓reduceIte, vcu, ↓vcd]
     have z48 := free_sub S15 n45
     have f49 := s46 _ _ f16
     have f50 := s46 _ _ w13
     have S51 := S15.trans s46
     refine ⟨keep_of rfl (fun p hp => by simp only [List.mem_singleton] at hp; subst hp; exact .inr S51), ?_⟩
     refine tree_one rfl ?_
     try simp -implicitDefEqProofs (disch := omega) only [Nat.reduceEqDiff, ↓reduceIte, vcu, ↓vcd]
     refine r_lit el44 (out := #[]) (by kernel_rfl) (by kernel_rfl) fun e52 T53 n54 s55 v56 => ?_
     replace v56 : T53 e52 = some ⟨tris [], false⟩ := v56
     simp -implicitDefEqProofs (disch := omega) only [Nat.reduceEqDiff, ↓reduceIte, vcu, ↓vcd]
     have z57 := free_sub S51 n54
     have f58 := s55 _ _ f49
     have f59 := s55 _ _ f50
     have f60 := s55 _ _ e47
     have S61 := S51.trans s55
     refine ⟨keep_of rfl (fun p hp => by simp only [List.mem_singleton] at hp; subst hp; exact .inr S61), ?_⟩
     refine tree_quiets _ _ _ _ sf0 (by kernel_rfl) (by kernel_rfl) ?_
     simp -implicitDefEqProofs (disch := omega) only [Nat.reduceEqDiff, ↓reduceIte, vcu, ↓vcd, pickOps_nil, pickOps_cons, pickO_some, List.getElem?_cons_succ, List.getElem?_cons_zero]
     rw [r_build]
     refine ⟨(_, #[.int .i64 O, .int .i64 E, .int .i64 M, .slice (some ⟨g9, 0, none⟩) ps.length 1, .slice (some ⟨e52, 0, none⟩) 0 3]), ⟨ze46, by simp -implicitDefEqProofs (disch := omega) only [Nat.reduceEqDiff, ↓reduceIte, vcu, ↓vcd]; kernel_rfl⟩, ?_⟩
     try simp -implicitDefEqProofs (disch := omega) only [Nat.reduceEqDiff, ↓reduceIte, vcu, ↓vcd]
     refine tree_one rfl ?_
     refine r_sets (g := h43) (i := 0) (C := [.int .i64 0, .int .i64 0, .int .i64 0, .slice none 0 0, .slice none 0 0]) z9q z9co46 z9r z9z f60 z9l fun T62 k63 e64 => ?_
     replace e64 : T62 h43 = some ⟨[.int .i64 O, .int .i64 E, .int .i64 M, .slice (some ⟨g9, 0, none⟩) ps.length 1, .slice (some ⟨e52, 0, none⟩) 0 3], false⟩ := e64
     have q65 := k63.at f59 (ne_of' n45 w13)
     have q66 := k63.at v56 (ne_of n54 e47)
     have q67 := k63.at f58 (ne_of' n45 f16)
     have S68 : Sub τ T62 := k63.sub S61 z48
     simp -implicitDefEqProofs (disch := omega) only [Nat.reduceEqDiff, ↓reduceIte, vcu, ↓vcd]
     refine ⟨keep_of rfl (fun p hp => by simp only [List.mem_singleton] at hp; subst hp; exact .inr S68), ?_⟩
     refine tree_stop ?_
     exact ⟨by first | trivial | rfl, g9, e52, h43, by first | trivial | rfl | simp -implicitDefEqProofs (disch := omega) only [Nat.reduceEqDiff, ↓reduceIte, vcu, ↓vcd], by first | trivial | rfl | simp -implicitDefEqProofs (disch := omega) only [Nat.reduceEqDiff, ↓reduceIte, vcu, ↓vcd], S68, e64, q65, q66, z14, z57⟩
   ·try simp -implicitDefEqProofs (disch := omega) only [Nat.reduceEqDiff, ↓reduceIte, vcu, ↓vcd]
    refine r_lit el44 (out := #[]) (by kernel_rfl) (by kernel_rfl) fun e69 T70 n71 s72 v73 => ?_
    replace v73 : T70 e69 = some ⟨tris [], false⟩ := v73
    simp -implicitDefEqProofs (disch := omega) only [Nat.reduceEqDiff, ↓reduceIte, vcu, ↓vcd]
    have z74 := free_sub S8 n71
    have f75 := s72 _ _ f7
    have f76 := s72 _ _ v5
    have S77 := S8.trans s72
    refine ⟨keep_of rfl (fun p hp => by simp only [List.mem_singleton] at hp; subst hp; exact .inr S77), ?_⟩
    refine tree_two rfl rfl ?_ ?_
    ·try simp -implicitDefEqProofs (disch := omega) only [Nat.reduceEqDiff, ↓reduceIte, vcu, ↓vcd]
     refine r_pushXV (g := e1) (len := 0) (xs := []) (ys := ps) el43 (by omega) sl43 z9q f76 rfl (by simp -implicitDefEqProofs (disch := omega) only [Nat.reduceEqDiff, ↓reduceIte, vcu, ↓vcd]; exact t1.sub S77) (by omega) fun g78 T79 n80 k81 w82 => ?_
     rw [List.nil_append] at w82
     simp -implicitDefEqProofs (disch := omega) only [Nat.reduceEqDiff, ↓reduceIte, vcu, ↓vcd, Nat.zero_add]
     have z83 := free_sub S77 n80
     have S84 := k81.sub S77 z6
     have f85 := k81.at f75 (ne_of' n3 e2)
     have f86 := k81.at v73 (ne_of n71 v5)
     refine ⟨keep_of rfl (fun p hp => by simp only [List.mem_singleton] at hp; subst hp; exact .inr S84), ?_⟩
     refine tree_quiets _ _ _ _ sf0 (by kernel_rfl) (by kernel_rfl) ?_
     simp -implicitDefEqProofs (disch := omega) only [Nat.reduceEqDiff, ↓reduceIte, vcu, ↓vcd, pickOps_nil, pickOps_cons, pickO_some, List.getElem?_cons_succ, List.getElem?_cons_zero]
     rw [r_build]
     refine ⟨(_, #[.int .i64 O, .int .i64 E, .int .i64 M, .slice (some ⟨g78, 0, none⟩) ps.length 1, .slice (some ⟨e69, 0, none⟩) 0 3]), ⟨ze46, by simp -implicitDefEqProofs (disch := omega) only [Nat.reduceEqDiff, ↓reduceIte, vcu, ↓vcd]; kernel_rfl⟩, ?_⟩
     try simp -implicitDefEqProofs (disch := omega) only [Nat.reduceEqDiff, ↓reduceIte, vcu, ↓vcd]
     refine tree_one rfl ?_
     try simp -implicitDefEqProofs (disch := omega) only [Nat.reduceEqDiff, ↓reduceIte, vcu, ↓vcd]
     refine r_new ze46 fun h87 T88 n89 s90 e91 => ?_
     replace e91 : T88 h87 = some ⟨[.int .i64 0, .int .i64 0, .int .i64 0, .slice none 0 0, .slice none 0 0], false⟩ := e91
     simp -implicitDefEqProofs (disch := omega) only [Nat.reduceEqDiff, ↓reduceIte, vcu, ↓vcd]
     have z92 := free_sub S84 n89
     have f93 := s90 _ _ f85
     have f94 := s90 _ _ f86
     have f95 := s90 _ _ w82
     have S96 := S84.trans s90
     refine ⟨keep_of rfl (fun p hp => by simp only [List.mem_singleton] at hp; subst hp; exact .inr S96), ?_⟩
     refine tree_one rfl ?_
     refine r_sets (g := h87) (i := 0) (C := [.int .i64 0, .int .i64 0, .int .i64 0, .slice none 0 0, .slice none 0 0]) z9q z9co46 z9r z9z e91 z9l fun T97 k98 e99 => ?_
     replace e99 : T97 h87 = some ⟨[.int .i64 O, .int .i64 E, .int .i64 M, .slice (some ⟨g78, 0, none⟩) ps.length 1, .slice (some ⟨e69, 0, none⟩) 0 3], false⟩ := e99
     have q100 := k98.at f95 (ne_of' n89 w82)
     have q101 := k98.at f94 (ne_of' n89 f86)
     have q102 := k98.at f93 (ne_of' n89 f85)
     have S103 : Sub τ T97 := k98.sub S96 z92
     simp -implicitDefEqProofs (disch := omega) only [Nat.reduceEqDiff, ↓reduceIte, vcu, ↓vcd]
     refine ⟨keep_of rfl (fun p hp => by simp only [List.mem_singleton] at hp; subst hp; exact .inr S103), ?_⟩
     refine tree_stop ?_
     exact ⟨by first | trivial | rfl, g78, e69, h87, by first | trivial | rfl | simp -implicitDefEqProofs (disch := omega) only [Nat.reduceEqDiff, ↓reduceIte, vcu, ↓vcd], by first | trivial | rfl | simp -implicitDefEqProofs (disch := omega) only [Nat.reduceEqDiff, ↓reduceIte, vcu, ↓vcd], S103, e99, q100, q101, z83, z74⟩
    ·try simp -implicitDefEqProofs (disch := omega) only [Nat.reduceEqDiff, ↓reduceIte, vcu, ↓vcd]
     refine r_new ze46 fun h104 T105 n106 s107 e108 => ?_
     replace e108 : T105 h104 = some ⟨[.int .i64 0, .int .i64 0, .int .i64 0, .slice none 0 0, .slice none 0 0], false⟩ := e108
     simp -implicitDefEqProofs (disch := omega) only [Nat.reduceEqDiff, ↓reduceIte, vcu, ↓vcd]
     have z109 := free_sub S77 n106
     have f110 := s107 _ _ f75
     have f111 := s107 _ _ f76
     have f112 := s107 _ _ v73
     have S113 := S77.trans s107
     refine ⟨keep_of rfl (fun p hp => by simp only [List.mem_singleton] at hp; subst hp; exact .inr S113), ?_⟩
     refine tree_one rfl ?_
     try simp -implicitDefEqProofs (disch := omega) only [Nat.reduceEqDiff, ↓reduceIte, vcu, ↓vcd]
     refine r_pushXV (g := e1) (len := 0) (xs := []) (ys := ps) el43 (by omega) sl43 z9q f111 rfl (by simp -implicitDefEqProofs (disch := omega) only [Nat.reduceEqDiff, ↓reduceIte, vcu, ↓vcd]; exact t1.sub S113) (by omega) fun g114 T115 n116 k117 w118 => ?_
     rw [List.nil_append] at w118
     simp -implicitDefEqProofs (disch := omega) only [Nat.reduceEqDiff, ↓reduceIte, vcu, ↓vcd, Nat.zero_add]
     have z119 := free_sub S113 n116
     have S120 := k117.sub S113 z6
     have f121 := k117.at f110 (ne_of' n3 e2)
     have f122 := k117.at f112 (ne_of n71 v5)
     have f123 := k117.at e108 (ne_of n106 f76)
     refine ⟨keep_of rfl (fun p hp => by simp only [List.mem_singleton] at hp; subst hp; exact .inr S120), ?_⟩
     refine tree_quiets _ _ _ _ sf0 (by kernel_rfl) (by kernel_rfl) ?_
     simp -implicitDefEqProofs (disch := omega) only [Nat.reduceEqDiff, ↓reduceIte, vcu, ↓vcd, pickOps_nil, pickOps_cons, pickO_some, List.getElem?_cons_succ, List.getElem?_cons_zero]
     rw [r_build]
     refine ⟨(_, #[.int .i64 O, .int .i64 E, .int .i64 M, .slice (some ⟨g114, 0, none⟩) ps.length 1, .slice (some ⟨e69, 0, none⟩) 0 3]), ⟨ze46, by simp -implicitDefEqProofs (disch := omega) only [Nat.reduceEqDiff, ↓reduceIte, vcu, ↓vcd]; kernel_rfl⟩, ?_⟩
     try simp -implicitDefEqProofs (disch := omega) only [Nat.reduceEqDiff, ↓reduceIte, vcu, ↓vcd]
     refine tree_one rfl ?_
     refine r_sets (g := h104) (i := 0) (C := [.int .i64 0, .int .i64 0, .int .i64 0, .slice none 0 0, .slice none 0 0]) z9q z9co46 z9r z9z f123 z9l fun T124 k125 e126 => ?_
     replace e126 : T124 h104 = some ⟨[.int .i64 O, .int .i64 E, .int .i64 M, .slice (some ⟨g114, 0, none⟩) ps.length 1, .slice (some ⟨e69, 0, none⟩) 0 3], false⟩ := e126
     have q127 := k125.at w118 (ne_of n116 e108)
     have q128 := k125.at f122 (ne_of' n106 v73)
     have q129 := k125.at f121 (ne_of' n106 f75)
     have S130 : Sub τ T124 := k125.sub S120 z109
     simp -implicitDefEqProofs (disch := omega) only [Nat.reduceEqDiff, ↓reduceIte, vcu, ↓vcd]
     refine ⟨keep_of rfl (fun p hp => by simp only [List.mem_singleton] at hp; subst hp; exact .inr S130), ?_⟩
     refine tree_stop ?_
     exact ⟨by first | trivial | rfl, g114, e69, h104, by first | trivial | rfl | simp -implicitDefEqProofs (disch := omega) only [Nat.reduceEqDiff, ↓reduceIte, vcu, ↓vcd], by first | trivial | rfl | simp -implicitDefEqProofs (disch := omega) only [Nat.reduceEqDiff, ↓reduceIte, vcu, ↓vcd], S130, e126, q127, q128, z119, z74⟩
   ·try simp -implicitDefEqProofs (disch := omega) only [Nat.reduceEqDiff, ↓reduceIte, vcu, ↓vcd]
    refine r_new ze46 fun h131 T132 n133 s134 e135 => ?_
    replace e135 : T132 h131 = some ⟨[.int .i64 0, .int .i64 0, .int .i64 0, .slice none 0 0, .slice none 0 0], false⟩ := e135
    simp -implicitDefEqProofs (disch := omega) only [Nat.reduceEqDiff, ↓reduceIte, vcu, ↓vcd]
    have z136 := free_sub S8 n133
    have f137 := s134 _ _ f7
    have f138 := s134 _ _ v5
    have S139 := S8.trans s134
    refine ⟨keep_of rfl (fun p hp => by simp only [List.mem_singleton] at hp; subst hp; exact .inr S139), ?_⟩
    refine tree_two rfl rfl ?_ ?_
    ·try simp -implicitDefEqProofs (disch := omega) only [Nat.reduceEqDiff, ↓reduceIte, vcu, ↓vcd]
     refine r_pushXV (g := e1) (len := 0) (xs := []) (ys := ps) el43 (by omega) sl43 z9q f138 rfl (by simp -implicitDefEqProofs (disch := omega) only [Nat.reduceEqDiff, ↓reduceIte, vcu, ↓vcd]; exact t1.sub S139) (by omega) fun g140 T141 n142 k143 w144 => ?_
     rw [List.nil_append] at w144
     simp -implicitDefEqProofs (disch := omega) only [Nat.reduceEqDiff, ↓reduceIte, vcu, ↓vcd, Nat.zero_add]
     have z145 := free_sub S139 n142
     have S146 := k143.sub S139 z6
     have f147 := k143.at f137 (ne_of' n3 e2)
     have f148 := k143.at e135 (ne_of n133 v5)
     refine ⟨keep_of rfl (fun p hp => by simp only [List.mem_singleton] at hp; subst hp; exact .inr S146), ?_⟩
     refine tree_one rfl ?_
     try simp -implicitDefEqProofs (disch := omega) only [Nat.reduceEqDiff, ↓reduceIte, vcu, ↓vcd]
     refine r_lit el44 (out := #[]) (by kernel_rfl) (by kernel_rfl) fun e149 T150 n151 s152 v153 => ?_
     replace v153 : T150 e149 = some ⟨tris [], false⟩ := v153
     simp -implicitDefEqProofs (disch := omega) only [Nat.reduceEqDiff, ↓reduceIte, vcu, ↓vcd]
     have z154 := free_sub S146 n151
     have f155 := s152 _ _ f147
     have f156 := s152 _ _ f148
     have f157 := s152 _ _ w144
     have S158 := S146.trans s152
     refine ⟨keep_of rfl (fun p hp => by simp only [List.mem_singleton] at hp; subst hp; exact .inr S158), ?_⟩
     refine tree_quiets _ _ _ _ sf0 (by kernel_rfl) (by kernel_rfl) ?_
     simp -implicitDefEqProofs (disch := omega) only [Nat.reduceEqDiff, ↓reduceIte, vcu, ↓vcd, pickOps_nil, pickOps_cons, pickO_some, List.getElem?_cons_succ, List.getElem?_cons_zero]
     rw [r_build]
     refine ⟨(_, #[.int .i64 O, .int .i64 E, .int .i64 M, .slice (some ⟨g140, 0, none⟩) ps.length 1, .slice (some ⟨e149, 0, none⟩) 0 3]), ⟨ze46, by simp -implicitDefEqProofs (disch := omega) only [Nat.reduceEqDiff, ↓reduceIte, vcu, ↓vcd]; kernel_rfl⟩, ?_⟩
     try simp -implicitDefEqProofs (disch := omega) only [Nat.reduceEqDiff, ↓reduceIte, vcu, ↓vcd]
     refine tree_one rfl ?_
     refine r_sets (g := h131) (i := 0) (C := [.int .i64 0, .int .i64 0, .int .i64 0, .slice none 0 0, .slice none 0 0]) z9q z9co46 z9r z9z f156 z9l fun T159 k160 e161 => ?_
     replace e161 : T159 h131 = some ⟨[.int .i64 O, .int .i64 E, .int .i64 M, .slice (some ⟨g140, 0, none⟩) ps.length 1, .slice (some ⟨e149, 0, none⟩) 0 3], false⟩ := e161
     have q162 := k160.at f157 (ne_of n142 e135)
     have q163 := k160.at v153 (ne_of n151 f148)
     have q164 := k160.at f155 (ne_of' n133 f7)
     have S165 : Sub τ T159 := k160.sub S158 z136
     simp -implicitDefEqProofs (disch := omega) only [Nat.reduceEqDiff, ↓reduceIte, vcu, ↓vcd]
     refine ⟨keep_of rfl (fun p hp => by simp only [List.mem_singleton] at hp; subst hp; exact .inr S165), ?_⟩
     refine tree_stop ?_
     exact ⟨by first | trivial | rfl, g140, e149, h131, by first | trivial | rfl | simp -implicitDefEqProofs (disch := omega) only [Nat.reduceEqDiff, ↓reduceIte, vcu, ↓vcd], by first | trivial | rfl | simp -implicitDefEqProofs (disch := omega) only [Nat.reduceEqDiff, ↓reduceIte, vcu, ↓vcd], S165, e161, q162, q163, z145, z154⟩
    ·try simp -implicitDefEqProofs (disch := omega) only [Nat.reduceEqDiff, ↓reduceIte, vcu, ↓vcd]
     refine r_lit el44 (out := #[]) (by kernel_rfl) (by kernel_rfl) fun e166 T167 n168 s169 v170 => ?_
     replace v170 : T167 e166 = some ⟨tris [], false⟩ := v170
     simp -implicitDefEqProofs (disch := omega) only [Nat.reduceEqDiff, ↓reduceIte, vcu, ↓vcd]
     have z171 := free_sub S139 n168
     have f172 := s169 _ _ f137
     have f173 := s169 _ _ f138
     have f174 := s169 _ _ e135
     have S175 := S139.trans s169
     refine ⟨keep_of rfl (fun p hp => by simp only [List.mem_singleton] at hp; subst hp; exact .inr S175), ?_⟩
     refine tree_one rfl ?_
     try simp -implicitDefEqProofs (disch := omega) only [Nat.reduceEqDiff, ↓reduceIte, vcu, ↓vcd]
     refine r_pushXV (g := e1) (len := 0) (xs := []) (ys := ps) el43 (by omega) sl43 z9q f173 rfl (by simp -implicitDefEqProofs (disch := omega) only [Nat.reduceEqDiff, ↓reduceIte, vcu, ↓vcd]; exact t1.sub S175) (by omega) fun g176 T177 n178 k179 w180 => ?_
     rw [List.nil_append] at w180
     simp -implicitDefEqProofs (disch := omega) only [Nat.reduceEqDiff, ↓reduceIte, vcu, ↓vcd, Nat.zero_add]
     have z181 := free_sub S175 n178
     have S182 := k179.sub S175 z6
     have f183 := k179.at f172 (ne_of' n3 e2)
     have f184 := k179.at f174 (ne_of n133 v5)
     have f185 := k179.at v170 (ne_of n168 f138)
     refine ⟨keep_of rfl (fun p hp => by simp only [List.mem_singleton] at hp; subst hp; exact .inr S182), ?_⟩
     refine tree_quiets _ _ _ _ sf0 (by kernel_rfl) (by kernel_rfl) ?_
     simp -implicitDefEqProofs (disch := omega) only [Nat.reduceEqDiff, ↓reduceIte, vcu, ↓vcd, pickOps_nil, pickOps_cons, pickO_some, List.getElem?_cons_succ, List.getElem?_cons_zero]
     rw [r_build]
     refine ⟨(_, #[.int .i64 O, .int .i64 E, .int .i64 M, .slice (some ⟨g176, 0, none⟩) ps.length 1, .slice (some ⟨e166, 0, none⟩) 0 3]), ⟨ze46, by simp -implicitDefEqProofs (disch := omega) only [Nat.reduceEqDiff, ↓reduceIte, vcu, ↓vcd]; kernel_rfl⟩, ?_⟩
     try simp -implicitDefEqProofs (disch := omega) only [Nat.reduceEqDiff, ↓reduceIte, vcu, ↓vcd]
     refine tree_one rfl ?_
     refine r_sets (g := h131) (i := 0) (C := [.int .i64 0, .int .i64 0, .int .i64 0, .slice none 0 0, .slice none 0 0]) z9q z9co46 z9r z9z f184 z9l fun T186 k187 e188 => ?_
     replace e188 : T186 h131 = some ⟨[.int .i64 O, .int .i64 E, .int .i64 M, .slice (some ⟨g176, 0, none⟩) ps.length 1, .slice (some ⟨e166, 0, none⟩) 0 3], false⟩ := e188
     have q189 := k187.at w180 (ne_of n178 f174)
     have q190 := k187.at f185 (ne_of n168 e135)
     have q191 := k187.at f183 (ne_of' n133 f7)
     have S192 : Sub τ T186 := k187.sub S182 z136
     simp -implicitDefEqProofs (disch := omega) only [Nat.reduceEqDiff, ↓reduceIte, vcu, ↓vcd]
     refine ⟨keep_of rfl (fun p hp => by simp only [List.mem_singleton] at hp; subst hp; exact .inr S192), ?_⟩
     refine tree_stop ?_
     exact ⟨by first | trivial | rfl, g176, e166, h131, by first | trivial | rfl | simp -implicitDefEqProofs (disch := omega) only [Nat.reduceEqDiff, ↓reduceIte, vcu, ↓vcd], by first | trivial | rfl | simp -implicitDefEqProofs (disch := omega) only [Nat.reduceEqDiff, ↓reduceIte, vcu, ↓vcd], S192, e188, q189, q190, z181, z171⟩
  ·try simp -implicitDefEqProofs (disch := omega) only [Nat.reduceEqDiff, ↓reduceIte, vcu, ↓vcd]
   refine r_lit el44 (out := #[]) (by kernel_rfl) (by kernel_rfl) fun e193 T194 n195 s196 v197 => ?_
   replace v197 : T194 e193 = some ⟨tris [], false⟩ := v197
   simp -implicitDefEqProofs (disch := omega) only [Nat.reduceEqDiff, ↓reduceIte, vcu, ↓vcd]
   have z198 := free_sub (Sub.refl τ) n195
   have f199 := s196 _ _ e2
   have S200 := (Sub.refl τ).trans s196
   refine ⟨keep_of rfl (fun p hp => by simp only [List.mem_singleton] at hp; subst hp; exact .inr S200), ?_⟩
   refine tree_two rfl rfl ?_ ?_
   ·try simp -implicitDefEqProofs (disch := omega) only [Nat.reduceEqDiff, ↓reduceIte, vcu, ↓vcd]
    refine r_lit el43 (out := #[]) (by kernel_rfl) (by kernel_rfl) fun e201 T202 n203 s204 v205 => ?_
    replace v205 : T202 e201 = some ⟨texts [], false⟩ := v205
    simp -implicitDefEqProofs (disch := omega) only [Nat.reduceEqDiff, ↓reduceIte, vcu, ↓vcd]
    have z206 := free_sub S200 n203
    have f207 := s204 _ _ f199
    have f208 := s204 _ _ v197
    have S209 := S200.trans s204
    refine ⟨keep_of rfl (fun p hp => by simp only [List.mem_singleton] at hp; subst hp; exact .inr S209), ?_⟩
    refine tree_two rfl rfl ?_ ?_
    ·try simp -implicitDefEqProofs (disch := omega) only [Nat.reduceEqDiff, ↓reduceIte, vcu, ↓vcd]
     refine r_pushXV (g := e201) (len := 0) (xs := []) (ys := ps) el43 (by omega) sl43 z9q v205 rfl (by simp -implicitDefEqProofs (disch := omega) only [Nat.reduceEqDiff, ↓reduceIte, vcu, ↓vcd]; exact t1.sub S209) (by omega) fun g210 T211 n212 k213 w214 => ?_
     rw [List.nil_append] at w214
     simp -implicitDefEqProofs (disch := omega) only [Nat.reduceEqDiff, ↓reduceIte, vcu, ↓vcd, Nat.zero_add]
     have z215 := free_sub S209 n212
     have S216 := k213.sub S209 z206
     have f217 := k213.at f207 (ne_of' n203 f199)
     have f218 := k213.at f208 (ne_of' n203 v197)
     refine ⟨keep_of rfl (fun p hp => by simp only [List.mem_singleton] at hp; subst hp; exact .inr S216), ?_⟩
     refine tree_quiets _ _ _ _ sf0 (by kernel_rfl) (by kernel_rfl) ?_
     simp -implicitDefEqProofs (disch := omega) only [Nat.reduceEqDiff, ↓reduceIte, vcu, ↓vcd, pickOps_nil, pickOps_cons, pickO_some, List.getElem?_cons_succ, List.getElem?_cons_zero]
     rw [r_build]
     refine ⟨(_, #[.int .i64 O, .int .i64 E, .int .i64 M, .slice (some ⟨g210, 0, none⟩) ps.length 1, .slice (some ⟨e193, 0, none⟩) 0 3]), ⟨ze46, by simp -implicitDefEqProofs (disch := omega) only [Nat.reduceEqDiff, ↓reduceIte, vcu, ↓vcd]; kernel_rfl⟩, ?_⟩
     try simp -implicitDefEqProofs (disch := omega) only [Nat.reduceEqDiff, ↓reduceIte, vcu, ↓vcd]
     refine tree_one rfl ?_
     try simp -implicitDefEqProofs (disch := omega) only [Nat.reduceEqDiff, ↓reduceIte, vcu, ↓vcd]
     refine r_new ze46 fun h219 T220 n221 s222 e223 => ?_
     replace e223 : T220 h219 = some ⟨[.int .i64 0, .int .i64 0, .int .i64 0, .slice none 0 0, .slice none 0 0], false⟩ := e223
     simp -implicitDefEqProofs (disch := omega) only [Nat.reduceEqDiff, ↓reduceIte, vcu, ↓vcd]
     have z224 := free_sub S216 n221
     have f225 := s222 _ _ f217
     have f226 := s222 _ _ f218
     have f227 := s222 _ _ w214
     have S228 := S216.trans s222
     refine ⟨keep_of rfl (fun p hp => by simp only [List.mem_singleton] at hp; subst hp; exact .inr S228), ?_⟩
     refine tree_one rfl ?_
     refine r_sets (g := h219) (i := 0) (C := [.int .i64 0, .int .i64 0, .int .i64 0, .slice none 0 0, .slice none 0 0]) z9q z9co46 z9r z9z e223 z9l fun T229 k230 e231 => ?_
     replace e231 : T229 h219 = some ⟨[.int .i64 O, .int .i64 E, .int .i64 M, .slice (some ⟨g210, 0, none⟩) ps.length 1, .slice (some ⟨e193, 0, none⟩) 0 3], false⟩ := e231
     have q232 := k230.at f227 (ne_of' n221 w214)
     have q233 := k230.at f226 (ne_of' n221 f218)
     have q234 := k230.at f225 (ne_of' n221 f217)
     have S235 : Sub τ T229 := k230.sub S228 z224
     simp -implicitDefEqProofs (disch := omega) only [Nat.reduceEqDiff, ↓reduceIte, vcu, ↓vcd]
     refine ⟨keep_of rfl (fun p hp => by simp only [List.mem_singleton] at hp; subst hp; exact .inr S235), ?_⟩
     refine tree_stop ?_
     exact ⟨by first | trivial | rfl, g210, e193, h219, by first | trivial | rfl | simp -implicitDefEqProofs (disch := omega) only [Nat.reduceEqDiff, ↓reduceIte, vcu, ↓vcd], by first | trivial | rfl | simp -implicitDefEqProofs (disch := omega) only [Nat.reduceEqDiff, ↓reduceIte, vcu, ↓vcd], S235, e231, q232, q233, z215, z198⟩
    ·try simp -implicitDefEqProofs (disch := omega) only [Nat.reduceEqDiff, ↓reduceIte, vcu, ↓vcd]
     refine r_new ze46 fun h236 T237 n238 s239 e240 => ?_
     replace e240 : T237 h236 = some ⟨[.int .i64 0, .int .i64 0, .int .i64 0, .slice none 0 0, .slice none 0 0], false⟩ := e240
     simp -implicitDefEqProofs (disch := omega) only [Nat.reduceEqDiff, ↓reduceIte, vcu, ↓vcd]
     have z241 := free_sub S209 n238
     have f242 := s239 _ _ f207
     have f243 := s239 _ _ f208
     have f244 := s239 _ _ v205
     have S245 := S209.trans s239
     refine ⟨keep_of rfl (fun p hp => by simp only [List.mem_singleton] at hp; subst hp; exact .inr S245), ?_⟩
     refine tree_one rfl ?_
     try simp -implicitDefEqProofs (disch := omega) only [Nat.reduceEqDiff, ↓reduceIte, vcu, ↓vcd]
     refine r_pushXV (g := e201) (len := 0) (xs := []) (ys := ps) el43 (by omega) sl43 z9q f244 rfl (by simp -implicitDefEqProofs (disch := omega) only [Nat.reduceEqDiff, ↓reduceIte, vcu, ↓vcd]; exact t1.sub S245) (by omega) fun g246 T247 n248 k249 w250 => ?_
     rw [List.nil_append] at w250
     simp -implicitDefEqProofs (disch := omega) only [Nat.reduceEqDiff, ↓reduceIte, vcu, ↓vcd, Nat.zero_add]
     have z251 := free_sub S245 n248
     have S252 := k249.sub S245 z206
     have f253 := k249.at f242 (ne_of' n203 f199)
     have f254 := k249.at f243 (ne_of' n203 v197)
     have f255 := k249.at e240 (ne_of n238 v205)
     refine ⟨keep_of rfl (fun p hp => by simp only [List.mem_singleton] at hp; subst hp; exact .inr S252), ?_⟩
     refine tree_quiets _ _ _ _ sf0 (by kernel_rfl) (by kernel_rfl) ?_
     simp -implicitDefEqProofs (disch := omega) only [Nat.reduceEqDiff, ↓reduceIte, vcu, ↓vcd, pickOps_nil, pickOps_cons, pickO_some, List.getElem?_cons_succ, List.getElem?_cons_zero]
     rw [r_build]
     refine ⟨(_, #[.int .i64 O, .int .i64 E, .int .i64 M, .slice (some ⟨g246, 0, none⟩) ps.length 1, .slice (some ⟨e193, 0, none⟩) 0 3]), ⟨ze46, by simp -implicitDefEqProofs (disch := omega) only [Nat.reduceEqDiff, ↓reduceIte, vcu, ↓vcd]; kernel_rfl⟩, ?_⟩
     try simp -implicitDefEqProofs (disch := omega) only [Nat.reduceEqDiff, ↓reduceIte, vcu, ↓vcd]
     refine tree_one rfl ?_
     refine r_sets (g := h236) (i := 0) (C := [.int .i64 0, .int .i64 0, .int .i64 0, .slice none 0 0, .slice none 0 0]) z9q z9co46 z9r z9z f255 z9l fun T256 k257 e258 => ?_
     replace e258 : T256 h236 = some ⟨[.int .i64 O, .int .i64 E, .int .i64 M, .slice (some ⟨g246, 0, none⟩) ps.length 1, .slice (some ⟨e193, 0, none⟩) 0 3], false⟩ := e258
     have q259 := k257.at w250 (ne_of n248 e240)
     have q260 := k257.at f254 (ne_of' n238 f208)
     have q261 := k257.at f253 (ne_of' n238 f207)
     have S262 : Sub τ T256 := k257.sub S252 z241
     simp -implicitDefEqProofs (disch := omega) only [Nat.reduceEqDiff, ↓reduceIte, vcu, ↓vcd]
     refine ⟨keep_of rfl (fun p hp => by simp only [List.mem_singleton] at hp; subst hp; exact .inr S262), ?_⟩
     refine tree_stop ?_
     exact ⟨by first | trivial | rfl, g246, e193, h236, by first | trivial | rfl | simp -implicitDefEqProofs (disch := omega) only [Nat.reduceEqDiff, ↓reduceIte, vcu, ↓vcd], by first | trivial | rfl | simp -implicitDefEqProofs (disch := omega) only [Nat.reduceEqDiff, ↓reduceIte, vcu, ↓vcd], S262, e258, q259, q260, z251, z198⟩
   ·try simp -implicitDefEqProofs (disch := omega) only [Nat.reduceEqDiff, ↓reduceIte, vcu, ↓vcd]
    refine r_new ze46 fun h263 T264 n265 s266 e267 => ?_
    replace e267 : T264 h263 = some ⟨[.int .i64 0, .int .i64 0, .int .i64 0, .slice none 0 0, .slice none 0 0], false⟩ := e267
    simp -implicitDefEqProofs (disch := omega) only [Nat.reduceEqDiff, ↓reduceIte, vcu, ↓vcd]
    have z268 := free_sub S200 n265
    have f269 := s266 _ _ f199
    have f270 := s266 _ _ v197
    have S271 := S200.trans s266
    refine ⟨keep_of rfl (fun p hp => by simp only [List.mem_singleton] at hp; subst hp; exact .inr S271), ?_⟩
    refine tree_one rfl ?_
    try simp -implicitDefEqProofs (disch := omega) only [Nat.reduceEqDiff, ↓reduceIte, vcu, ↓vcd]
    refine r_lit el43 (out := #[]) (by kernel_rfl) (by kernel_rfl) fun e272 T273 n274 s275 v276 => ?_
    replace v276 : T273 e272 = some ⟨texts [], false⟩ := v276
    simp -implicitDefEqProofs (disch := omega) only [Nat.reduceEqDiff, ↓reduceIte, vcu, ↓vcd]
    have z277 := free_sub S271 n274
    have f278 := s275 _ _ f269
    have f279 := s275 _ _ f270
    have f280 := s275 _ _ e267
    have S281 := S271.trans s275
    refine ⟨keep_of rfl (fun p hp => by simp only [List.mem_singleton] at hp; subst hp; exact .inr S281), ?_⟩
    refine tree_one rfl ?_
    try simp -implicitDefEqProofs (disch := omega) only [Nat.reduceEqDiff, ↓reduceIte, vcu, ↓vcd]
    refine r_pushXV (g := e272) (len := 0) (xs := []) (ys := ps) el43 (by omega) sl43 z9q v276 rfl (by simp -implicitDefEqProofs (disch := omega) only [Nat.reduceEqDiff, ↓reduceIte, vcu, ↓vcd]; exact t1.sub S281) (by omega) fun g282 T283 n284 k285 w286 => ?_
    rw [List.nil_append] at w286
    simp -implicitDefEqProofs (disch := omega) only [Nat.reduceEqDiff, ↓reduceIte, vcu, ↓vcd, Nat.zero_add]
    have z287 := free_sub S281 n284
    have S288 := k285.sub S281 z277
    have f289 := k285.at f278 (ne_of' n274 f269)
    have f290 := k285.at f279 (ne_of' n274 f270)
    have f291 := k285.at f280 (ne_of' n274 e267)
    refine ⟨keep_of rfl (fun p hp => by simp only [List.mem_singleton] at hp; subst hp; exact .inr S288), ?_⟩
    refine tree_quiets _ _ _ _ sf0 (by kernel_rfl) (by kernel_rfl) ?_
    simp -implicitDefEqProofs (disch := omega) only [Nat.reduceEqDiff, ↓reduceIte, vcu, ↓vcd, pickOps_nil, pickOps_cons, pickO_some, List.getElem?_cons_succ, List.getElem?_cons_zero]
    rw [r_build]
    refine ⟨(_, #[.int .i64 O, .int .i64 E, .int .i64 M, .slice (some ⟨g282, 0, none⟩) ps.length 1, .slice (some ⟨e193, 0, none⟩) 0 3]), ⟨ze46, by simp -implicitDefEqProofs (disch := omega) only [Nat.reduceEqDiff, ↓reduceIte, vcu, ↓vcd]; kernel_rfl⟩, ?_⟩
    try simp -implicitDefEqProofs (disch := omega) only [Nat.reduceEqDiff, ↓reduceIte, vcu, ↓vcd]
    refine tree_one rfl ?_
    refine r_sets (g := h263) (i := 0) (C := [.int .i64 0, .int .i64 0, .int .i64 0, .slice none 0 0, .slice none 0 0]) z9q z9co46 z9r z9z f291 z9l fun T292 k293 e294 => ?_
    replace e294 : T292 h263 = some ⟨[.int .i64 O, .int .i64 E, .int .i64 M, .slice (some ⟨g282, 0, none⟩) ps.length 1, .slice (some ⟨e193, 0, none⟩) 0 3], false⟩ := e294
    have q295 := k293.at w286 (ne_of n284 f280)
    have q296 := k293.at f290 (ne_of' n265 v197)
    have q297 := k293.at f289 (ne_of' n265 f199)
    have S298 : Sub τ T292 := k293.sub S288 z268
    simp -implicitDefEqProofs (disch := omega) only [Nat.reduceEqDiff, ↓reduceIte, vcu, ↓vcd]
    refine ⟨keep_of rfl (fun p hp => by simp only [List.mem_singleton] at hp; subst hp; exact .inr S298), ?_⟩
    refine tree_stop ?_
    exact ⟨by first | trivial | rfl, g282, e193, h263, by first | trivial | rfl | simp -implicitDefEqProofs (disch := omega) only [Nat.reduceEqDiff, ↓reduceIte, vcu, ↓vcd], by first | trivial | rfl | simp -implicitDefEqProofs (disch := omega) only [Nat.reduceEqDiff, ↓reduceIte, vcu, ↓vcd], S298, e294, q295, q296, z287, z198⟩
  ·try simp -implicitDefEqProofs (disch := omega) only [Nat.reduceEqDiff, ↓reduceIte, vcu, ↓vcd]
   refine r_new ze46 fun h299 T300 n301 s302 e303 => ?_
   replace e303 : T300 h299 = some ⟨[.int .i64 0, .int .i64 0, .int .i64 0, .slice none 0 0, .slice none 0 0], false⟩ := e303
   simp -implicitDefEqProofs (disch := omega) only [Nat.reduceEqDiff, ↓reduceIte, vcu, ↓vcd]
   have z304 := free_sub (Sub.refl τ) n301
   have f305 := s302 _ _ e2
   have S306 := (Sub.refl τ).trans s302
   refine ⟨keep_of rfl (fun p hp => by simp only [List.mem_singleton] at hp; subst hp; exact .inr S306), ?_⟩
   refine tree_two rfl rfl ?_ ?_
   ·try simp -implicitDefEqProofs (disch := omega) only [Nat.reduceEqDiff, ↓reduceIte, vcu, ↓vcd]
    refine r_lit el43 (out := #[]) (by kernel_rfl) (by kernel_rfl) fun e307 T308 n309 s310 v311 => ?_
    replace v311 : T308 e307 = some ⟨texts [], false⟩ := v311
    simp -implicitDefEqProofs (disch := omega) only [Nat.reduceEqDiff, ↓reduceIte, vcu, ↓vcd]
    have z312 := free_sub S306 n309
    have f313 := s310 _ _ f305
    have f314 := s310 _ _ e303
    have S315 := S306.trans s310
    refine ⟨keep_of rfl (fun p hp => by simp only [List.mem_singleton] at hp; subst hp; exact .inr S315), ?_⟩
    refine tree_two rfl rfl ?_ ?_
    ·try simp -implicitDefEqProofs (disch := omega) only [Nat.reduceEqDiff, ↓reduceIte, vcu, ↓vcd]
     refine r_pushXV (g := e307) (len := 0) (xs := []) (ys := ps) el43 (by omega) sl43 z9q v311 rfl (by simp -implicitDefEqProofs (disch := omega) only [Nat.reduceEqDiff, ↓reduceIte, vcu, ↓vcd]; exact t1.sub S315) (by omega) fun g316 T317 n318 k319 w320 => ?_
     rw [List.nil_append] at w320
     simp -implicitDefEqProofs (disch := omega) only [Nat.reduceEqDiff, ↓reduceIte, vcu, ↓vcd, Nat.zero_add]
     have z321 := free_sub S315 n318
     have S322 := k319.sub S315 z312
     have f323 := k319.at f313 (ne_of' n309 f305)
     have f324 := k319.at f314 (ne_of' n309 e303)
     refine ⟨keep_of rfl (fun p hp => by simp only [List.mem_singleton] at hp; subst hp; exact .inr S322), ?_⟩
     refine tree_one rfl ?_
     try simp -implicitDefEqProofs (disch := omega) only [Nat.reduceEqDiff, ↓reduceIte, vcu, ↓vcd]
     refine r_lit el44 (out := #[]) (by kernel_rfl) (by kernel_rfl) fun e325 T326 n327 s328 v329 => ?_
     replace v329 : T326 e325 = some ⟨tris [], false⟩ := v329
     simp -implicitDefEqProofs (disch := omega) only [Nat.reduceEqDiff, ↓reduceIte, vcu, ↓vcd]
     have z330 := free_sub S322 n327
     have f331 := s328 _ _ f323
     have f332 := s328 _ _ f324
     have f333 := s328 _ _ w320
     have S334 := S322.trans s328
     refine ⟨keep_of rfl (fun p hp => by simp only [List.mem_singleton] at hp; subst hp; exact .inr S334), ?_⟩
     refine tree_quiets _ _ _ _ sf0 (by kernel_rfl) (by kernel_rfl) ?_
     simp -implicitDefEqProofs (disch := omega) only [Nat.reduceEqDiff, ↓reduceIte, vcu, ↓vcd, pickOps_nil, pickOps_cons, pickO_some, List.getElem?_cons_succ, List.getElem?_cons_zero]
     rw [r_build]
     refine ⟨(_, #[.int .i64 O, .int .i64 E, .int .i64 M, .slice (some ⟨g316, 0, none⟩) ps.length 1, .slice (some ⟨e325, 0, none⟩) 0 3]), ⟨ze46, by simp -implicitDefEqProofs (disch := omega) only [Nat.reduceEqDiff, ↓reduceIte, vcu, ↓vcd]; kernel_rfl⟩, ?_⟩
     try simp -implicitDefEqProofs (disch := omega) only [Nat.reduceEqDiff, ↓reduceIte, vcu, ↓vcd]
     refine tree_one rfl ?_
     refine r_sets (g := h299) (i := 0) (C := [.int .i64 0, .int .i64 0, .int .i64 0, .slice none 0 0, .slice none 0 0]) z9q z9co46 z9r z9z f332 z9l fun T335 k336 e337 => ?_
     replace e337 : T335 h299 = some ⟨[.int .i64 O, .int .i64 E, .int .i64 M, .slice (some ⟨g316, 0, none⟩) ps.length 1, .slice (some ⟨e325, 0, none⟩) 0 3], false⟩ := e337
     have q338 := k336.at f333 (ne_of n318 f314)
     have q339 := k336.at v329 (ne_of n327 f324)
     have q340 := k336.at f331 (ne_of' n301 e2)
     have S341 : Sub τ T335 := k336.sub S334 z304
     simp -implicitDefEqProofs (disch := omega) only [Nat.reduceEqDiff, ↓reduceIte, vcu, ↓vcd]
     refine ⟨keep_of rfl (fun p hp => by simp only [List.mem_singleton] at hp; subst hp; exact .inr S341), ?_⟩
     refine tree_stop ?_
     exact ⟨by first | trivial | rfl, g316, e325, h299, by first | trivial | rfl | simp -implicitDefEqProofs (disch := omega) only [Nat.reduceEqDiff, ↓reduceIte, vcu, ↓vcd], by first | trivial | rfl | simp -implicitDefEqProofs (disch := omega) only [Nat.reduceEqDiff, ↓reduceIte, vcu, ↓vcd], S341, e337, q338, q339, z321, z330⟩
    ·try simp -implicitDefEqProofs (disch := omega) only [Nat.reduceEqDiff, ↓reduceIte, vcu, ↓vcd]
     refine r_lit el44 (out := #[]) (by kernel_rfl) (by kernel_rfl) fun e342 T343 n344 s345 v346 => ?_
     replace v346 : T343 e342 = some ⟨tris [], false⟩ := v346
     simp -implicitDefEqProofs (disch := omega) only [Nat.reduceEqDiff, ↓reduceIte, vcu, ↓vcd]
     have z347 := free_sub S315 n344
     have f348 := s345 _ _ f313
     have f349 := s345 _ _ f314
     have f350 := s345 _ _ v311
     have S351 := S315.trans s345
     refine ⟨keep_of rfl (fun p hp => by simp only [List.mem_singleton] at hp; subst hp; exact .inr S351), ?_⟩
     refine tree_one rfl ?_
     try simp -implicitDefEqProofs (disch := omega) only [Nat.reduceEqDiff, ↓reduceIte, vcu, ↓vcd]
     refine r_pushXV (g := e307) (len := 0) (xs := []) (ys := ps) el43 (by omega) sl43 z9q f350 rfl (by simp -implicitDefEqProofs (disch := omega) only [Nat.reduceEqDiff, ↓reduceIte, vcu, ↓vcd]; exact t1.sub S351) (by omega) fun g352 T353 n354 k355 w356 => ?_
     rw [List.nil_append] at w356
     simp -implicitDefEqProofs (disch := omega) only [Nat.reduceEqDiff, ↓reduceIte, vcu, ↓vcd, Nat.zero_add]
     have z357 := free_sub S351 n354
     have S358 := k355.sub S351 z312
     have f359 := k355.at f348 (ne_of' n309 f305)
     have f360 := k355.at f349 (ne_of' n309 e303)
     have f361 := k355.at v346 (ne_of n344 v311)
     refine ⟨keep_of rfl (fun p hp => by simp only [List.mem_singleton] at hp; subst hp; exact .inr S358), ?_⟩
     refine tree_quiets _ _ _ _ sf0 (by kernel_rfl) (by kernel_rfl) ?_
     simp -implicitDefEqProofs (disch := omega) only [Nat.reduceEqDiff, ↓reduceIte, vcu, ↓vcd, pickOps_nil, pickOps_cons, pickO_some, List.getElem?_cons_succ, List.getElem?_cons_zero]
     rw [r_build]
     refine ⟨(_, #[.int .i64 O, .int .i64 E, .int .i64 M, .slice (some ⟨g352, 0, none⟩) ps.length 1, .slice (some ⟨e342, 0, none⟩) 0 3]), ⟨ze46, by simp -implicitDefEqProofs (disch := omega) only [Nat.reduceEqDiff, ↓reduceIte, vcu, ↓vcd]; kernel_rfl⟩, ?_⟩
     try simp -implicitDefEqProofs (disch := omega) only [Nat.reduceEqDiff, ↓reduceIte, vcu, ↓vcd]
     refine tree_one rfl ?_
     refine r_sets (g := h299) (i := 0) (C := [.int .i64 0, .int .i64 0, .int .i64 0, .slice none 0 0, .slice none 0 0]) z9q z9co46 z9r z9z f360 z9l fun T362 k363 e364 => ?_
     replace e364 : T362 h299 = some ⟨[.int .i64 O, .int .i64 E, .int .i64 M, .slice (some ⟨g352, 0, none⟩) ps.length 1, .slice (some ⟨e342, 0, none⟩) 0 3], false⟩ := e364
     have q365 := k363.at w356 (ne_of n354 f349)
     have q366 := k363.at f361 (ne_of n344 f314)
     have q367 := k363.at f359 (ne_of' n301 e2)
     have S368 : Sub τ T362 := k363.sub S358 z304
     simp -implicitDefEqProofs (disch := omega) only [Nat.reduceEqDiff, ↓reduceIte, vcu, ↓vcd]
     refine ⟨keep_of rfl (fun p hp => by simp only [List.mem_singleton] at hp; subst hp; exact .inr S368), ?_⟩
     refine tree_stop ?_
     exact ⟨by first | trivial | rfl, g352, e342, h299, by first | trivial | rfl | simp -implicitDefEqProofs (disch := omega) only [Nat.reduceEqDiff, ↓reduceIte, vcu, ↓vcd], by first | trivial | rfl | simp -implicitDefEqProofs (disch := omega) only [Nat.reduceEqDiff, ↓reduceIte, vcu, ↓vcd], S368, e364, q365, q366, z357, z347⟩
   ·try simp -implicitDefEqProofs (disch := omega) only [Nat.reduceEqDiff, ↓reduceIte, vcu, ↓vcd]
    refine r_lit el44 (out := #[]) (by kernel_rfl) (by kernel_rfl) fun e369 T370 n371 s372 v373 => ?_
    replace v373 : T370 e369 = some ⟨tris [], false⟩ := v373
    simp -implicitDefEqProofs (disch := omega) only [Nat.reduceEqDiff, ↓reduceIte, vcu, ↓vcd]
    have z374 := free_sub S306 n371
    have f375 := s372 _ _ f305
    have f376 := s372 _ _ e303
    have S377 := S306.trans s372
    refine ⟨keep_of rfl (fun p hp => by simp only [List.mem_singleton] at hp; subst hp; exact .inr S377), ?_⟩
    refine tree_one rfl ?_
    try simp -implicitDefEqProofs (disch := omega) only [Nat.reduceEqDiff, ↓reduceIte, vcu, ↓vcd]
    refine r_lit el43 (out := #[]) (by kernel_rfl) (by kernel_rfl) fun e378 T379 n380 s381 v382 => ?_
    replace v382 : T379 e378 = some ⟨texts [], false⟩ := v382
    simp -implicitDefEqProofs (disch := omega) only [Nat.reduceEqDiff, ↓reduceIte, vcu, ↓vcd]
    have z383 := free_sub S377 n380
    have f384 := s381 _ _ f375
    have f385 := s381 _ _ f376
    have f386 := s381 _ _ v373
    have S387 := S377.trans s381
    refine ⟨keep_of rfl (fun p hp => by simp only [List.mem_singleton] at hp; subst hp; exact .inr S387), ?_⟩
    refine tree_one rfl ?_
    try simp -implicitDefEqProofs (disch := omega) only [Nat.reduceEqDiff, ↓reduceIte, vcu, ↓vcd]
    refine r_pushXV (g := e378) (len := 0) (xs := []) (ys := ps) el43 (by omega) sl43 z9q v382 rfl (by simp -implicitDefEqProofs (disch := omega) only [Nat.reduceEqDiff, ↓reduceIte, vcu, ↓vcd]; exact t1.sub S387) (by omega) fun g388 T389 n390 k391 w392 => ?_
    rw [List.nil_append] at w392
    simp -implicitDefEqProofs (disch := omega) only [Nat.reduceEqDiff, ↓reduceIte, vcu, ↓vcd, Nat.zero_add]
    have z393 := free_sub S387 n390
    have S394 := k391.sub S387 z383
    have f395 := k391.at f384 (ne_of' n380 f375)
    have f396 := k391.at f385 (ne_of' n380 f376)
    have f397 := k391.at f386 (ne_of' n380 v373)
    refine ⟨keep_of rfl (fun p hp => by simp only [List.mem_singleton] at hp; subst hp; exact .inr S394), ?_⟩
    refine tree_quiets _ _ _ _ sf0 (by kernel_rfl) (by kernel_rfl) ?_
    simp -implicitDefEqProofs (disch := omega) only [Nat.reduceEqDiff, ↓reduceIte, vcu, ↓vcd, pickOps_nil, pickOps_cons, pickO_some, List.getElem?_cons_succ, List.getElem?_cons_zero]
    rw [r_build]
    refine ⟨(_, #[.int .i64 O, .int .i64 E, .int .i64 M, .slice (some ⟨g388, 0, none⟩) ps.length 1, .slice (some ⟨e369, 0, none⟩) 0 3]), ⟨ze46, by simp -implicitDefEqProofs (disch := omega) only [Nat.reduceEqDiff, ↓reduceIte, vcu, ↓vcd]; kernel_rfl⟩, ?_⟩
    try simp -implicitDefEqProofs (disch := omega) only [Nat.reduceEqDiff, ↓reduceIte, vcu, ↓vcd]
    refine tree_one rfl ?_
    refine r_sets (g := h299) (i := 0) (C := [.int .i64 0, .int .i64 0, .int .i64 0, .slice none 0 0, .slice none 0 0]) z9q z9co46 z9r z9z f396 z9l fun T398 k399 e400 => ?_
    replace e400 : T398 h299 = some ⟨[.int .i64 O, .int .i64 E, .int .i64 M, .slice (some ⟨g388, 0, none⟩) ps.length 1, .slice (some ⟨e369, 0, none⟩) 0 3], false⟩ := e400
    have q401 := k399.at w392 (ne_of n390 f385)
    have q402 := k399.at f397 (ne_of n371 e303)
    have q403 := k399.at f395 (ne_of' n301 e2)
    have S404 : Sub τ T398 := k399.sub S394 z304
    simp -implicitDefEqProofs (disch := omega) only [Nat.reduceEqDiff, ↓reduceIte, vcu, ↓vcd]
    refine ⟨keep_of rfl (fun p hp => by simp only [List.mem_singleton] at hp; subst hp; exact .inr S404), ?_⟩
    refine tree_stop ?_
    exact ⟨by first | trivial | rfl, g388, e369, h299, by first | trivial | rfl | simp -implicitDefEqProofs (disch := omega) only [Nat.reduceEqDiff, ↓reduceIte, vcu, ↓vcd], by first | trivial | rfl | simp -implicitDefEqProofs (disch := omega) only [Nat.reduceEqDiff, ↓reduceIte, vcu, ↓vcd], S404, e400, q401, q402, z393, z374⟩
 ·rintro _ a τ' ⟨rfl, g1, g2, h5, q5, q4, S, f5, w1, w2, z1, z3⟩
  have f4 := S _ _ e2
  have l5 : lds τ' h5 0 5 = some [.int .i64 O, .int .i64 E, .int .i64 M, .slice (some ⟨g1, 0, none⟩) ps.length 1, .slice (some ⟨g2, 0, none⟩) 0 3] := by rw [lds_of f5 (by simp)]; rfl
  have hX : OwnX σ τ' (exV (.slice (some ⟨g1, 0, none⟩) ps.length 1) (.slice (some ⟨g2, 0, none⟩) 0 3) ⟨⟨O, E, M⟩, ps, []⟩) ⟨⟨O, E, M⟩, ps, []⟩ :=
   ⟨_, _, rfl, .inr ⟨g1, rfl, w1, free_sub s12 z1⟩, .inr ⟨g2, rfl, w2, free_sub s12 z3⟩⟩
  have hval := exVal_calls (w0 := w0) τ' _ _ hX.ex ⟨b1, b2, by simp⟩
  unfold exV at hval
  dsimp only at hval
  simp -implicitDefEqProofs (disch := omega) only [Nat.reduceEqDiff, ↓reduceIte, vcu, ↓vcd, q4, q5, l5, co46]
  refine hval.mono ?_
  rintro _ _ ⟨rfl, rfl⟩
  rename_i τ'
  have d1 : g1 ≠ h4 := ne_of z1 e2
  have d2 : g2 ≠ h4 := ne_of z3 e2
  by_cases hok : ExOk ⟨⟨O, E, M⟩, ps, []⟩
  ·rw [decide_eq_true hok]
   have hV : newX ⟨O, E, M⟩ ps = ⟨⟨O, E, M⟩, ps, []⟩ := if_pos hok
   simp -implicitDefEqProofs (disch := omega) only [Nat.reduceEqDiff, ↓reduceIte, vcu, ↓vcd, opK_some, q4, q5, l5, co46, Bool.not_true]
   refine r_sets (g := h4) (i := 0) (C := [.int .i64 0, .int .i64 0, .int .i64 0, .slice none 0 0, .slice none 0 0]) (by simp -implicitDefEqProofs (disch := omega) only [Nat.reduceEqDiff, ↓reduceIte, vcu, ↓vcd, q4]) z9co46 z9r z9z f4 z9l fun τ9 k9 e9 => ?_
   replace e9 : τ9 h4 = some ⟨[.int .i64 O, .int .i64 E, .int .i64 M, .slice (some ⟨g1, 0, none⟩) ps.length 1, .slice (some ⟨g2, 0, none⟩) 0 3], false⟩ := e9
   have l9 : lds τ9 h4 0 5 = some [.int .i64 O, .int .i64 E, .int .i64 M, .slice (some ⟨g1, 0, none⟩) ps.length 1, .slice (some ⟨g2, 0, none⟩) 0 3] := by rw [lds_of e9 (by simp)]; rfl
   simp -implicitDefEqProofs (disch := omega) only [Nat.reduceEqDiff, ↓reduceIte, vcu, ↓vcd, q4]
   refine fin_cell Tryd.results40 τ9 (Sub.refl _) (v := exV (.slice (some ⟨g1, 0, none⟩) ps.length 1) (.slice (some ⟨g2, 0, none⟩) 0 3) ⟨⟨O, E, M⟩, ps, []⟩) (by simp -implicitDefEqProofs (disch := omega) only [Nat.reduceEqDiff, ↓reduceIte, vcu, ↓vcd, q4, l9, co46]; rfl) ⟨k9.sub (s12.trans S) z2, ?_⟩
   rw [hV]
   exact ⟨_, _, rfl, .inr ⟨g1, rfl, k9.at w1 d1, free_sub s12 z1⟩, .inr ⟨g2, rfl, k9.at w2 d2, free_sub s12 z3⟩⟩
  ·rw [decide_eq_false hok]
   have hV : newX ⟨O, E, M⟩ ps = ex0 := if_neg hok
   simp -implicitDefEqProofs (disch := omega) only [Nat.reduceEqDiff, ↓reduceIte, vcu, ↓vcd, opK_some, q4, Bool.not_false]
   rw [r_build]
   refine ⟨(_, #[.int .i64 0, .int .i64 0, .int .i64 0, .slice none 0 0, .slice none 0 0]), ⟨ze46, by first | kernel_rfl | (simp -implicitDefEqProofs (disch := omega) only [Nat.reduceEqDiff, ↓reduceIte, vcu, ↓vcd]; kernel_rfl)⟩, ?_⟩
   simp -implicitDefEqProofs (disch := omega) only [Nat.reduceEqDiff, ↓reduceIte, vcu, ↓vcd]
   refine r_sets (g := h4) (i := 0) (C := [.int .i64 0, .int .i64 0, .int .i64 0, .slice none 0 0, .slice none 0 0]) (by simp -implicitDefEqProofs (disch := omega) only [Nat.reduceEqDiff, ↓reduceIte, vcu, ↓vcd, q4]) z9co46 z9r z9z f4 z9l fun τ9 k9 e9 => ?_
   replace e9 : τ9 h4 = some ⟨[.int .i64 0, .int .i64 0, .int .i64 0, .slice none 0 0, .slice none 0 0], false⟩ := e9
   have l9 : lds τ9 h4 0 5 = some [.int .i64 0, .int .i64 0, .int .i64 0, .slice none 0 0, .slice none 0 0] := by rw [lds_of e9 (by simp)]; rfl
   simp -implicitDefEqProofs (disch := omega) only [Nat.reduceEqDiff, ↓reduceIte, vcu, ↓vcd, q4]
   refine fin_cell Tryd.results40 τ9 (Sub.refl _) (v := exV (.slice none 0 0) (.slice none 0 0) ex0) (by simp -implicitDefEqProofs (disch := omega) only [Nat.reduceEqDiff, ↓reduceIte, vcu, ↓vcd, q4, l9, co46]; rfl) ⟨k9.sub (s12.trans S) z2, ?_⟩
   rw [hV]
   exact ⟨_, _, rfl, .inl ⟨rfl, rfl⟩, .inl ⟨rfl, rfl⟩⟩
end Go.Proofs.YtofdnmlpfagibaaDoor
namespace Go.Proofs.YtofdnmlpfagibaaDoor
open Go Go.Abs Go.RowKit Go.Clos
variable {w0 : World}
set_option maxRecDepth 8000 in
theorem specBusy_at (σ : AHeap) (h o : Nat) (cs : List Cl) (I O : Int) (hv : TrisAt σ h o cs) (hl : cs.length ≤ 1048576) :
  ACall Tryd.prog w0 71 [.slice (some ⟨h, o, none⟩) cs.length 3, .int .i64 I, .int .i64 O] σ fun r σ' => r = .bool (decide (Busy cs I O)) ∧ σ' = σ := by
 refine acall_go mixed Tryd.func71 rfl good71 fun pr => ?_
 simp -implicitDefEqProofs (disch := omega) only [Nat.reduceEqDiff, ↓reduceIte, vcu, ↓vcd]
 refine vc_loop_c mixed (by kernel_rfl) [0, 1, 2] (fun m a τ => ∃ k : Nat, m + k = cs.length ∧ a 7 = .int .i64 k ∧ τ = σ ∧ ∀ c ∈ cs.take k, c.i ≠ I ∧ c.o ≠ O) cs.length ⟨0, by simp, rfl, rfl, by simp⟩ ?_
 rintro m a τ hc ⟨k, hk, h7, rfl, hN⟩
 simp -implicitDefEqProofs (disch := omega) only [Nat.reduceEqDiff, ↓reduceIte, vcu, ↓vcd] at hc
 obtain ⟨h0, h1, h2, -⟩ := hc
 by_cases hlt : k < cs.length
 case neg =>
  obtain rfl : k = cs.length := by omega
  rw [List.take_length] at hN
  rw [decide_eq_false (fun hB : Busy cs I O => by obtain ⟨c, hc, e⟩ := hB; exact e.elim (hN c hc).1 (hN c hc).2)]
  simp -implicitDefEqProofs (disch := omega) only [Nat.reduceEqDiff, ↓reduceIte, vcu, ↓vcd, h0, h1, h2, h7]
  refine fin_one Tryd.results71 ⟨?_, rfl⟩
  simp -implicitDefEqProofs (disch := omega) only [Nat.reduceEqDiff, ↓reduceIte, vcu, ↓vcd]
 obtain ⟨x1, x2, -⟩ := hv k hlt
 have hm := gc_mem hlt
 have ht := take_gc hlt
 have hgk : cs.getD k cl0 = gc cs k := rfl
 rw [hgk] at x1 x2
 generalize gc cs k = c at x1 x2 hm ht
 by_cases c1 : c.i = I
 ·rw [decide_eq_true (show Busy cs I O from ⟨c, hm, .inl c1⟩)]
  simp -implicitDefEqProofs (disch := omega) only [Nat.reduceEqDiff, ↓reduceIte, vcu, ↓vcd, h0, h1, h2, h7, x1, x2, Nat.add_zero]
  refine fin_one Tryd.results71 ⟨?_, rfl⟩
  simp -implicitDefEqProofs (disch := omega) only [Nat.reduceEqDiff, ↓reduceIte, vcu, ↓vcd]
 by_cases c2 : c.o = O
 ·rw [decide_eq_true (show Busy cs I O from ⟨c, hm, .inr c2⟩)]
  simp -implicitDefEqProofs (disch := omega) only [Nat.reduceEqDiff, ↓reduceIte, vcu, ↓vcd, h0, h1, h2, h7, x1, x2, Nat.add_zero]
  refine fin_one Tryd.results71 ⟨?_, rfl⟩
  simp -implicitDefEqProofs (disch := omega) only [Nat.reduceEqDiff, ↓reduceIte, vcu, ↓vcd]
 simp -implicitDefEqProofs (disch := omega) only [Nat.reduceEqDiff, ↓reduceIte, vcu, ↓vcd, h0, h1, h2, h7, x1, x2, Nat.add_zero]
 refine ⟨⟨trivial, trivial, trivial, trivial⟩, m - 1, by omega, k + 1, by omega, by simp, trivial, fun d hd => ?_⟩
 rw [ht] at hd
 rcases List.mem_append.1 hd with hd | hd
 ·exact hN d hd
 ·rw [List.mem_singleton] at hd; subst hd; exact ⟨c1, c2⟩
set_option maxRecDepth 8000 in
theorem specFirst_at (σ : AHeap) (O E M : Int) (g p : Nat) (used : List Int) (hv : IntsAt .i64 σ g p used) (hl : used.length ≤ 1048576) (hM : 0 ≤ M ∧ M ≤ 5) :
  ACall Tryd.prog w0 73 [.agg #[.int .i64 O, .int .i64 E, .int .i64 M], .slice (some ⟨g, p, none⟩) used.length 1] σ fun r σ' => r = .int .i64 (firstN used M.toNat 0) ∧ σ' = σ := by
 refine acall_go mixed Tryd.func73 rfl good73 fun pr => ?_
 simp -implicitDefEqProofs (disch := omega) only [Nat.reduceEqDiff, ↓reduceIte, vcu, ↓vcd]
 refine r_boxed fun b τ nb s1 e1 => ?_
 replace e1 : τ b = some ⟨[.int .i64 O, .int .i64 E, .int .i64 M], false⟩ := e1
 have lM : ld τ b (0 + 2) = some (.int .i64 M) := ld_of e1 rfl
 simp -implicitDefEqProofs (disch := omega) only [Nat.reduceEqDiff, ↓reduceIte, vcu, ↓vcd]
 refine vc_loop_c mixed (by kernel_rfl) [1, 2] (fun m a τ' => ∃ k : Nat, m + k = M.toNat ∧ a 5 = .int .i64 k ∧ τ' = τ ∧ firstN used M.toNat 0 = firstN used m k) M.toNat ⟨0, by simp, rfl, rfl, rfl⟩ ?_
 rintro m a τ2 hc ⟨k, hk, h5, rfl, hf⟩
 simp -implicitDefEqProofs (disch := omega) only [Nat.reduceEqDiff, ↓reduceIte, vcu, ↓vcd] at hc
 obtain ⟨h1, h2, -⟩ := hc
 by_cases hlt : k < M.toNat
 case neg =>
  obtain rfl : m = 0 := by omega
  simp -implicitDefEqProofs (disch := omega) only [Nat.reduceEqDiff, ↓reduceIte, vcu, ↓vcd, h1, h2, h5, lM]
  refine fin_drop Tryd.results73 σ s1 ⟨?_, rfl⟩
  simp -implicitDefEqProofs (disch := omega) only [Nat.reduceEqDiff, ↓reduceIte, vcu, ↓vcd]
  rw [hf]; rfl
 obtain ⟨m2, rfl⟩ : ∃ m2, m = m2 + 1 := ⟨m - 1, by omega⟩
 rw [firstN_step] at hf
 simp -implicitDefEqProofs (disch := omega) only [Nat.reduceEqDiff, ↓reduceIte, vcu, ↓vcd, h1, h2, h5, lM]
 refine (has_at τ2 g p used k (hv.sub s1) hl).mono ?_
 rintro r _ ⟨rfl, rfl⟩
 rename_i τ
 by_cases hu : (k : Int) ∈ used
 ·rw [if_pos hu] at hf
  rw [decide_eq_true hu]
  simp -implicitDefEqProofs (disch := omega) only [Nat.reduceEqDiff, ↓reduceIte, vcu, ↓vcd, opK_some, Bool.not_true, h1, h2, h5]
  exact ⟨⟨trivial, trivial, trivial⟩, m2, by omega, k + 1, by omega, by simp, trivial, hf⟩
 ·rw [if_neg hu] at hf
  rw [decide_eq_false hu]
  simp -implicitDefEqProofs (disch := omega) only [Nat.reduceEqDiff, ↓reduceIte, vcu, ↓vcd, opK_some, Bool.not_false, h1, h2, h5]
  refine fin_drop Tryd.results73 σ s1 ⟨?_, rfl⟩
  simp -implicitDefEqProofs (disch := omega) only [Nat.reduceEqDiff, ↓reduceIte, vcu, ↓vcd]
  rw [hf]
set_option maxRecDepth 8000 in
theorem specUsedI_at (σ : AHeap) (s : Sp) (h o : Nat) (cs : List Cl) (x : Int) (hv : TrisAt σ h o cs) (hl : cs.length ≤ 1048576) (hR : ∀ c ∈ cs, Rg s c) (hS : SV s) :
  ACall Tryd.prog w0 74 [.agg #[.int .i64 s.O, .int .i64 s.E, .int .i64 s.M], .slice (some ⟨h, o, none⟩) cs.length 3, .int .i64 x, .int .i64 0] σ fun r σ' => Sub σ σ' ∧ OwnI σ σ' r (usedI s cs x) := by
 have hL := hS.lines
 have hE := hS.2.1
 have hlen := fun k => (used_length s (cs.take k) x).1
 have hlk : ∀ k, (cs.take k).length ≤ cs.length := fun k => by simp; omega
 refine acall_go mixed Tryd.func74 rfl good74 fun pr => ?_
 simp -implicitDefEqProofs (disch := omega) only [Nat.reduceEqDiff, ↓reduceIte, vcu, ↓vcd]
 refine r_boxed fun b τ nb s1 e1 => ?_
 replace e1 : τ b = some ⟨[.int .i64 s.O, .int .i64 s.E, .int .i64 s.M], false⟩ := e1
 simp -implicitDefEqProofs (disch := omega) only [Nat.reduceEqDiff, ↓reduceIte, vcu, ↓vcd]
 refine r_lit el54 (out := #[]) (by kernel_rfl) (by kernel_rfl) fun e0 τ1 n1 s2 e2 => ?_
 simp -implicitDefEqProofs (disch := omega) only [Nat.reduceEqDiff, ↓reduceIte, vcu, ↓vcd]
 refine vc_loop_c mixed (by kernel_rfl) [1, 2, 3, 4] (fun m a τ' => ∃ (k g : Nat), m + k = cs.length ∧ a 10 = .int .i64 k ∧ a 9 = .slice (some ⟨g, 0, none⟩) (usedI s (cs.take k) x).length 1 ∧ Sub τ τ' ∧ τ' g = some ⟨ints .i64 (usedI s (cs.take k) x), false⟩ ∧ τ g = none) cs.length ⟨0, e0, by simp, rfl, rfl, s2, e2, n1⟩ ?_
 rintro m a τ2 hc ⟨k, g, hk, h10, h9, hs, hg, hn⟩
 simp -implicitDefEqProofs (disch := omega) only [Nat.reduceEqDiff, ↓reduceIte, vcu, ↓vcd] at hc
 obtain ⟨h1, h2, h3, h4, -⟩ := hc
 by_cases hlt : k < cs.length
 case neg =>
  obtain rfl : k = cs.length := by omega
  rw [List.take_length] at h9 hg
  simp -implicitDefEqProofs (disch := omega) only [Nat.reduceEqDiff, ↓reduceIte, vcu, ↓vcd, h1, h2, h3, h4, h9, h10]
  refine fin_one Tryd.results74 ⟨s1.trans hs, .inr ⟨g, ?_, hg, free_sub s1 hn⟩⟩
  simp -implicitDefEqProofs (disch := omega) only [Nat.reduceEqDiff, ↓reduceIte, vcu, ↓vcd, h9]
 obtain ⟨x1, x2, x3⟩ := ((hv.sub s1).sub hs) k hlt
 have hm := hR _ (gc_mem hlt)
 have ht := usedI_take (s := s) (x := x) hlt
 have hl1 := hlen (k + 1)
 have hl0 := hlen k
 have hk1 := hlk k
 have hgk : cs.getD k cl0 = gc cs k := rfl
 rw [hgk] at x1 x2 x3
 generalize gc cs k = c at x1 x2 x3 hm ht
 obtain ⟨⟨a1, a2⟩, ⟨a3, a4⟩, -⟩ := hm
 have lE : ld τ2 b (0 + 1) = some (.int .i64 s.E) := ld_of (hs _ _ e1) rfl
 by_cases ci : c.i / s.E = x
 ·rw [if_pos ci] at ht
  simp -implicitDefEqProofs (disch := omega) only [Nat.reduceEqDiff, ↓reduceIte, vcu, ↓vcd, h1, h2, h3, h4, h10, x1, x2, x3, lE, Nat.add_zero]
  refine r_lit el54 (out := #[.int .i64 c.v]) (by first | kernel_rfl | (simp -implicitDefEqProofs (disch := omega) only [Nat.reduceEqDiff, ↓reduceIte, vcu, ↓vcd]; kernel_rfl)) (by rfl) fun e3 τ3 n3 s3 v3 => ?_
  simp -implicitDefEqProofs (disch := omega) only [Nat.reduceEqDiff, ↓reduceIte, vcu, ↓vcd, h9]
  refine r_pushI (g := g) (e := e3) (o := 0) (k := .i64) (xs := usedI s (cs.take k) x) (ys := [c.v]) (m := 1) (len := (usedI s (cs.take k) x).length) el54 (by omega) sl54 (by simp -implicitDefEqProofs (disch := omega) only [Nat.reduceEqDiff, ↓reduceIte, vcu, ↓vcd, h9]) (s3 _ _ hg) rfl z9q (intsAt_own v3) rfl (by omega) fun g6 τ6 n6 k6 v6 => ?_
  rw [← ht] at v6
  have hle : (usedI s (cs.take k) x).length + 1 = (usedI s (cs.take (k + 1)) x).length := by rw [ht]; simp
  simp -implicitDefEqProofs (disch := omega) only [Nat.reduceEqDiff, ↓reduceIte, vcu, ↓vcd, h1, h2, h3, h4, h10, hle]
  exact ⟨⟨trivial, trivial, trivial, trivial, trivial⟩, m - 1, by omega, k + 1, g6, by omega, by simp, rfl, k6.sub (hs.trans s3) hn, v6, free_sub (hs.trans s3) n6⟩
 ·rw [if_neg ci, List.append_nil] at ht
  simp -implicitDefEqProofs (disch := omega) only [Nat.reduceEqDiff, ↓reduceIte, vcu, ↓vcd, h1, h2, h3, h4, h10, x1, x2, x3, lE, Nat.add_zero]
  exact ⟨⟨trivial, trivial, trivial, trivial, trivial⟩, m - 1, by omega, k + 1, g, by omega, by simp, by rw [ht]; exact h9, hs, by rw [ht]; exact hg, hn⟩
set_option maxRecDepth 8000 in
theorem specUsedO_at (σ : AHeap) (s : Sp) (h o : Nat) (cs : List Cl) (x : Int) (hv : TrisAt σ h o cs) (hl : cs.length ≤ 1048576) (hR : ∀ c ∈ cs, Rg s c) (hS : SV s) :
  ACall Tryd.prog w0 74 [.agg #[.int .i64 s.O, .int .i64 s.E, .int .i64 s.M], .slice (some ⟨h, o, none⟩) cs.length 3, .int .i64 x, .int .i64 1] σ fun r σ' => Sub σ σ' ∧ OwnI σ σ' r (usedO s cs x) := by
 have hL := hS.lines
 have hE := hS.2.1
 have hlen := fun k => (used_length s (cs.take k) x).2
 have hlk : ∀ k, (cs.take k).length ≤ cs.length := fun k => by simp; omega
 refine acall_go mixed Tryd.func74 rfl good74 fun pr => ?_
 simp -implicitDefEqProofs (disch := omega) only [Nat.reduceEqDiff, ↓reduceIte, vcu, ↓vcd]
 refine r_boxed fun b τ nb s1 e1 => ?_
 replace e1 : τ b = some ⟨[.int .i64 s.O, .int .i64 s.E, .int .i64 s.M], false⟩ := e1
 simp -implicitDefEqProofs (disch := omega) only [Nat.reduceEqDiff, ↓reduceIte, vcu, ↓vcd]
 refine r_lit el54 (out := #[]) (by kernel_rfl) (by kernel_rfl) fun e0 τ1 n1 s2 e2 => ?_
 simp -implicitDefEqProofs (disch := omega) only [Nat.reduceEqDiff, ↓reduceIte, vcu, ↓vcd]
 refine vc_loop_c mixed (by kernel_rfl) [1, 2, 3, 4] (fun m a τ' => ∃ (k g : Nat), m + k = cs.length ∧ a 10 = .int .i64 k ∧ a 9 = .slice (some ⟨g, 0, none⟩) (usedO s (cs.take k) x).length 1 ∧ Sub τ τ' ∧ τ' g = some ⟨ints .i64 (usedO s (cs.take k) x), false⟩ ∧ τ g = none) cs.length ⟨0, e0, by simp, rfl, rfl, s2, e2, n1⟩ ?_
 rintro m a τ2 hc ⟨k, g, hk, h10, h9, hs, hg, hn⟩
 simp -implicitDefEqProofs (disch := omega) only [Nat.reduceEqDiff, ↓reduceIte, vcu, ↓vcd] at hc
 obtain ⟨h1, h2, h3, h4, -⟩ := hc
 by_cases hlt : k < cs.length
 case neg =>
  obtain rfl : k = cs.length := by omega
  rw [List.take_length] at h9 hg
  simp -implicitDefEqProofs (disch := omega) only [Nat.reduceEqDiff, ↓reduceIte, vcu, ↓vcd, h1, h2, h3, h4, h9, h10]
  refine fin_one Tryd.results74 ⟨s1.trans hs, .inr ⟨g, ?_, hg, free_sub s1 hn⟩⟩
  simp -implicitDefEqProofs (disch := omega) only [Nat.reduceEqDiff, ↓reduceIte, vcu, ↓vcd, h9]
 obtain ⟨x1, x2, x3⟩ := ((hv.sub s1).sub hs) k hlt
 have hm := hR _ (gc_mem hlt)
 have ht := usedO_take (s := s) (x := x) hlt
 have hl1 := hlen (k + 1)
 have hl0 := hlen k
 have hk1 := hlk k
 have hgk : cs.getD k cl0 = gc cs k := rfl
 rw [hgk] at x1 x2 x3
 generalize gc cs k = c at x1 x2 x3 hm ht
 obtain ⟨⟨a1, a2⟩, ⟨a3, a4⟩, -⟩ := hm
 have lE : ld τ2 b (0 + 1) = some (.int .i64 s.E) := ld_of (hs _ _ e1) rfl
 by_cases ci : c.o / s.E = x
 ·rw [if_pos ci] at ht
  simp -implicitDefEqProofs (disch := omega) only [Nat.reduceEqDiff, ↓reduceIte, vcu, ↓vcd, h1, h2, h3, h4, h10, x1, x2, x3, lE, Nat.add_zero]
  refine r_lit el54 (out := #[.int .i64 c.v]) (by first | kernel_rfl | (simp -implicitDefEqProofs (disch := omega) only [Nat.reduceEqDiff, ↓reduceIte, vcu, ↓vcd]; kernel_rfl)) (by rfl) fun e3 τ3 n3 s3 v3 => ?_
  simp -implicitDefEqProofs (disch := omega) only [Nat.reduceEqDiff, ↓reduceIte, vcu, ↓vcd, h9]
  refine r_pushI (g := g) (e := e3) (o := 0) (k := .i64) (xs := usedO s (cs.take k) x) (ys := [c.v]) (m := 1) (len := (usedO s (cs.take k) x).length) el54 (by omega) sl54 (by simp -implicitDefEqProofs (disch := omega) only [Nat.reduceEqDiff, ↓reduceIte, vcu, ↓vcd, h9]) (s3 _ _ hg) rfl z9q (intsAt_own v3) rfl (by omega) fun g6 τ6 n6 k6 v6 => ?_
  rw [← ht] at v6
  have hle : (usedO s (cs.take k) x).length + 1 = (usedO s (cs.take (k + 1)) x).length := by rw [ht]; simp
  simp -implicitDefEqProofs (disch := omega) only [Nat.reduceEqDiff, ↓reduceIte, vcu, ↓vcd, h1, h2, h3, h4, h10, hle]
  exact ⟨⟨trivial, trivial, trivial, trivial, trivial⟩, m - 1, by omega, k + 1, g6, by omega, by simp, rfl, k6.sub (hs.trans s3) hn, v6, free_sub (hs.trans s3) n6⟩
 ·rw [if_neg ci, List.append_nil] at ht
  simp -implicitDefEqProofs (disch := omega) only [Nat.reduceEqDiff, ↓reduceIte, vcu, ↓vcd, h1, h2, h3, h4, h10, x1, x2, x3, lE, Nat.add_zero]
  exact ⟨⟨trivial, trivial, trivial, trivial, trivial⟩, m - 1, by omega, k + 1, g, by omega, by simp, by rw [ht]; exact h9, hs, by rw [ht]; exact hg, hn⟩
end Go.Proofs.YtofdnmlpfagibaaDoor
namespace Go.Proofs.YtofdnmlpfagibaaDoor
open Go Go.Abs Go.RowKit Go.Clos
variable {w0 : World}
theorem acodeB_mono {P : Program} {b : Base} {n : NR} {c : Code} {a : AFrame} {σ : AHeap} {Q Q' : AQ} (h : ACodeB P b n c a σ Q') (hq : ∀ e a σ, Q' e a σ → Q e a σ) : ACodeB P b n c a σ Q := ACode.mono h hq
set_option maxRecDepth 8000 in
theorem specFree_at (σ : AHeap) (s : Sp) (h o : Nat) (cs : List Cl) (I O : Int) (hv : TrisAt σ h o cs) (hl : cs.length ≤ 1048576) :
  ACall Tryd.prog w0 72 [.agg #[.int .i64 s.O, .int .i64 s.E, .int .i64 s.M], .slice (some ⟨h, o, none⟩) cs.length 3, .int .i64 I, .int .i64 O] σ fun r σ' => Sub σ σ' ∧ OwnI σ σ' r (freeV s cs I O) := by
 refine acall_go mixed Tryd.func72 rfl good72 fun pr => ?_
 simp -implicitDefEqProofs (disch := omega) only [Nat.reduceEqDiff, ↓reduceIte, vcu, ↓vcd]
 refine r_boxed fun b τ nb s1 e1 => ?_
 replace e1 : τ b = some ⟨[.int .i64 s.O, .int .i64 s.E, .int .i64 s.M], false⟩ := e1
 simp -implicitDefEqProofs (disch := omega) only [Nat.reduceEqDiff, ↓reduceIte, vcu, ↓vcd]
 refine r_lit el54 (out := #[]) (by kernel_rfl) (by kernel_rfl) fun e0 τ1 n1 s2 e2 => ?_
 have hs1 := s1.trans s2
 have nσ := free_sub s1 n1
 have hve := fun (τ' : AHeap) (hs : Sub σ τ') => specCV_at (w0 := w0) τ' s.O s.E s.M h o cs (hv.sub hs) hl
 have m3 : ∀ τ', Sub τ τ' → lds τ' b 0 3 = some [.int .i64 s.O, .int .i64 s.E, .int .i64 s.M] := fun τ' hs => lds_three (ld_of (hs _ _ e1) rfl) (ld_of (hs _ _ e1) rfl) (ld_of (hs _ _ e1) rfl)
 have mM : ∀ τ', Sub τ τ' → ld τ' b (0 + 2) = some (.int .i64 s.M) := fun τ' hs => ld_of (hs _ _ e1) rfl
 by_cases hC : CV s cs
 case neg =>
  rw [freeV_no fun hh => hC hh.1]
  simp -implicitDefEqProofs (disch := omega) only [Nat.reduceEqDiff, ↓reduceIte, vcu, ↓vcd]
  refine vc_loop_c mixed (by kernel_rfl) [9] (fun m a τ' => a 1 = .slice (some ⟨h, o, none⟩) cs.length 3 ∧ a 4 = .pointer (some ⟨b, 0, none⟩) ∧ a 10 = .int .i64 0 ∧ τ' = τ1) 0 ⟨rfl, rfl, rfl, rfl⟩ ?_
  rintro m a τ2 hc ⟨h1, h4, h10, rfl⟩
  simp -implicitDefEqProofs (disch := omega) only [Nat.reduceEqDiff, ↓reduceIte, vcu, ↓vcd] at hc
  obtain ⟨h9, -⟩ := hc
  have l1 := mM τ2 s2
  have l2 := m3 τ2 s2
  by_cases hM : 0 < s.M
  ·simp -implicitDefEqProofs (disch := omega) only [Nat.reduceEqDiff, ↓reduceIte, vcu, ↓vcd, h1, h4, h9, h10, l1, l2, co42]
   refine (hve τ2 hs1).mono ?_
   rintro r _ ⟨rfl, rfl⟩
   rw [decide_eq_false hC]
   simp -implicitDefEqProofs (disch := omega) only [Nat.reduceEqDiff, ↓reduceIte, vcu, ↓vcd, opK_some, h9]
   refine fin_one Tryd.results72 ⟨hs1, .inr ⟨e0, ?_, e2, nσ⟩⟩
   simp -implicitDefEqProofs (disch := omega) only [Nat.reduceEqDiff, ↓reduceIte, vcu, ↓vcd, h9]
   rfl
  ·simp -implicitDefEqProofs (disch := omega) only [Nat.reduceEqDiff, ↓reduceIte, vcu, ↓vcd, h1, h4, h9, h10, l1, l2, co42]
   refine fin_one Tryd.results72 ⟨hs1, .inr ⟨e0, ?_, e2, nσ⟩⟩
   simp -implicitDefEqProofs (disch := omega) only [Nat.reduceEqDiff, ↓reduceIte, vcu, ↓vcd, h9]
   rfl
 have hS := hC.1
 obtain ⟨-, -, hM1, hM2⟩ := hS
 have hl12 := hC.len
 have hle : ∀ k, (freeL s cs I O k).length ≤ k := fun k => by
  have := List.length_filter_le (fun v => decide (Free s cs I O v)) (rng k)
  rw [rng_length] at this; exact this
 simp -implicitDefEqProofs (disch := omega) only [Nat.reduceEqDiff, ↓reduceIte, vcu, ↓vcd]
 refine vc_loop_c mixed (by kernel_rfl) [1, 2, 3, 4] (fun m a τ' => ∃ (k g : Nat), m + k = s.M.toNat ∧ a 10 = .int .i64 k ∧ a 9 = .slice (some ⟨g, 0, none⟩) (freeL s cs I O k).length 1 ∧ Sub τ τ' ∧ τ' g = some ⟨ints .i64 (freeL s cs I O k), false⟩ ∧ τ g = none) s.M.toNat ⟨0, e0, by simp, rfl, rfl, s2, e2, n1⟩ ?_
 rintro m a τ2 hc ⟨k, g, hk, h10, h9, hs, hg, hn⟩
 simp -implicitDefEqProofs (disch := omega) only [Nat.reduceEqDiff, ↓reduceIte, vcu, ↓vcd] at hc
 obtain ⟨h1, h2, h3, h4, -⟩ := hc
 have l1 := mM τ2 hs
 have l2 := m3 τ2 hs
 by_cases hlt : k < s.M.toNat
 case neg =>
  obtain rfl : k = s.M.toNat := by omega
  simp -implicitDefEqProofs (disch := omega) only [Nat.reduceEqDiff, ↓reduceIte, vcu, ↓vcd, h1, h2, h3, h4, h9, h10, l1, l2]
  refine fin_one Tryd.results72 ⟨s1.trans hs, .inr ⟨g, ?_, hg, free_sub s1 hn⟩⟩
  simp -implicitDefEqProofs (disch := omega) only [Nat.reduceEqDiff, ↓reduceIte, vcu, ↓vcd, h9]
  rfl
 simp -implicitDefEqProofs (disch := omega) only [Nat.reduceEqDiff, ↓reduceIte, vcu, ↓vcd, h1, h2, h3, h4, h9, h10, l1, l2, co42]
 refine (hve τ2 (s1.trans hs)).mono ?_
 rintro r _ ⟨rfl, rfl⟩
 rename_i τ2
 rw [decide_eq_true hC]
 have hlk := hle k
 have hsucc := freeL_succ s cs I O k
 have hve2 := fun (τ' : AHeap) (g9 : Nat) (hh : τ' g9 = some ⟨tris (cs ++ [⟨I, O, (k : Int)⟩]), false⟩) => specCV_at (w0 := w0) τ' s.O s.E s.M g9 0 (cs ++ [⟨I, O, (k : Int)⟩]) (trisAt_own hh) (by simp; omega)
 have hll : (cs ++ [(⟨I, O, (k : Int)⟩ : Cl)]).length = cs.length + 1 := by simp
 rw [hll] at hve2
 simp -implicitDefEqProofs (disch := omega) only [Nat.reduceEqDiff, ↓reduceIte, vcu, ↓vcd, opK_some, h1, h2, h3, h4, h9, h10, co42]
 refine acodeB_mono (Q' := fun e a' τ8 => e = .normal ∧ (a' 1 = .slice (some ⟨h, o, none⟩) cs.length 3 ∧ a' 2 = .int .i64 I ∧ a' 3 = .int .i64 O ∧ a' 4 = .pointer (some ⟨b, 0, none⟩) ∧ a' 9 = .slice (some ⟨g, 0, none⟩) (freeL s cs I O k).length 1 ∧ a' 10 = .int .i64 (k : Int) ∧ a' 33 = .bool (decide (Free s cs I O k))) ∧ Sub τ2 τ8)
  (region_tree mixed (quiets [0, 2, 4, 5, 6, 7] (.two 1 (.two 3 (.one 8 (.one 9 (.one 10 .stop))) 8 (.one 3 (.one 9 (.one 10 .stop)))) 8 (.one 1 (.one 3 (.one 9 (.one 10 .stop)))))) [([0, 2, 4, 5, 6, 7], Sub τ2)] (by kernel_rfl) (by kernel_rfl) (fun p hp => by simp only [List.mem_singleton] at hp; subst hp; exact Sub.refl _) ?_) ?_
 ·refine tree_quiets τ2 _ _ _ sf1 (by kernel_rfl) (by kernel_rfl) ?_
  simp -implicitDefEqProofs (disch := omega) only [Nat.reduceEqDiff, ↓reduceIte, vcu, ↓vcd, pickOps_nil, pickOps_cons, pickO_some, List.getElem?_cons_succ, List.getElem?_cons_zero, h1, h2, h3, h4, h9, h10, l2, co42]
  rw [r_build]
  refine ⟨(_, #[.int .i64 I, .int .i64 O, .int .i64 (k : Int)]), ⟨ze79, by simp -implicitDefEqProofs (disch := omega) only [Nat.reduceEqDiff, ↓reduceIte, vcu, ↓vcd, h2, h3, h10]; kernel_rfl⟩, ?_⟩
  simp -implicitDefEqProofs (disch := omega) only [Nat.reduceEqDiff, ↓reduceIte, vcu, ↓vcd, pickOps_nil, pickOps_cons, pickO_some, List.getElem?_cons_succ, List.getElem?_cons_zero]
  refine tree_two rfl rfl ?_ ?_
  ·refine r_lit el44 (out := #[]) (by kernel_rfl) (by kernel_rfl) fun ea τ3 n3 s3 v3 => ?_
   simp -implicitDefEqProofs (disch := omega) only [Nat.reduceEqDiff, ↓reduceIte, vcu, ↓vcd]
   refine ⟨keep_of rfl (fun p hp => by simp only [List.mem_singleton] at hp; subst hp; exact .inr s3), ?_⟩
   refine tree_two rfl rfl ?_ ?_
   ·refine r_pushC (g := ea) (e := h) (o := o) (cs := []) (ds := cs) (m := cs.length) (len := 0) el44 (by omega) sl44 z9q v3 rfl z9q (hv.sub (s1.trans (hs.trans s3))) rfl (by omega) fun gb τ4 n4 k4 v4 => ?_
    rw [List.nil_append] at v4
    have s4 : Sub τ2 τ4 := k4.sub s3 n3
    simp -implicitDefEqProofs (disch := omega) only [Nat.reduceEqDiff, ↓reduceIte, vcu, ↓vcd]
    refine ⟨keep_of rfl (fun p hp => by simp only [List.mem_singleton] at hp; subst hp; exact .inr s4), tree_one rfl ?_⟩
    refine r_lit el44 (out := #[.int .i64 I, .int .i64 O, .int .i64 (k : Int)]) (by first | kernel_rfl | (simp -implicitDefEqProofs (disch := omega) only [Nat.reduceEqDiff, ↓reduceIte, vcu, ↓vcd]; kernel_rfl)) (by rfl) fun eb τ5 n5 s5 v5 => ?_
    replace v5 : τ5 eb = some ⟨tris [⟨I, O, (k : Int)⟩], false⟩ := v5
    simp -implicitDefEqProofs (disch := omega) only [Nat.reduceEqDiff, ↓reduceIte, vcu, ↓vcd]
    have v4' := s5 _ _ v4
    have s5' := s4.trans s5
    refine ⟨keep_of rfl (fun p hp => by simp only [List.mem_singleton] at hp; subst hp; exact .inr s5'), ?_⟩
    refine tree_one rfl ?_
    refine r_pushC (g := gb) (e := eb) (o := 0) (cs := cs) (ds := [⟨I, O, (k : Int)⟩]) (m := 1) (len := cs.length) el44 (by omega) sl44 (by simp -implicitDefEqProofs (disch := omega) only [Nat.reduceEqDiff, ↓reduceIte, vcu, ↓vcd, Nat.zero_add]) v4' rfl z9q (trisAt_own v5) rfl (by omega) fun gc9 τ9 n9 k9 v9 => ?_
    have s9 : Sub τ2 τ9 := fun z ob e => k9.at (s5' _ _ e) (ne_of' (free_sub s3 n4) e)
    simp -implicitDefEqProofs (disch := omega) only [Nat.reduceEqDiff, ↓reduceIte, vcu, ↓vcd]
    refine ⟨keep_of rfl (fun p hp => by simp only [List.mem_singleton] at hp; subst hp; exact .inr s9), tree_one rfl ?_⟩
    simp -implicitDefEqProofs (disch := omega) only [Nat.reduceEqDiff, ↓reduceIte, vcu, ↓vcd]
    refine (hve2 τ9 gc9 v9).mono ?_
    rintro r τ10 ⟨rfl, e10⟩
    subst e10
    simp -implicitDefEqProofs (disch := omega) only [Nat.reduceEqDiff, ↓reduceIte, vcu, ↓vcd, opK_some]
    refine ⟨keep_of rfl (fun p hp => by simp only [List.mem_singleton] at hp; subst hp; exact .inr s9), tree_stop ?_⟩
    refine ⟨trivial, ⟨?_, ?_, ?_, ?_, ?_, ?_, ?_⟩, s9⟩
    ·simp -implicitDefEqProofs (disch := omega) only [Nat.reduceEqDiff, ↓reduceIte, vcu, ↓vcd, h1]
    ·simp -implicitDefEqProofs (disch := omega) only [Nat.reduceEqDiff, ↓reduceIte, vcu, ↓vcd, h2]
    ·simp -implicitDefEqProofs (disch := omega) only [Nat.reduceEqDiff, ↓reduceIte, vcu, ↓vcd, h3]
    ·simp -implicitDefEqProofs (disch := omega) only [Nat.reduceEqDiff, ↓reduceIte, vcu, ↓vcd, h4]
    ·simp -implicitDefEqProofs (disch := omega) only [Nat.reduceEqDiff, ↓reduceIte, vcu, ↓vcd, h9]
    ·simp -implicitDefEqProofs (disch := omega) only [Nat.reduceEqDiff, ↓reduceIte, vcu, ↓vcd, h10]
    ·simp -implicitDefEqProofs (disch := omega) only [Nat.reduceEqDiff, ↓reduceIte, vcu, ↓vcd]
     rfl
   ·refine r_lit el44 (out := #[.int .i64 I, .int .i64 O, .int .i64 (k : Int)]) (by first | kernel_rfl | (simp -implicitDefEqProofs (disch := omega) only [Nat.reduceEqDiff, ↓reduceIte, vcu, ↓vcd]; kernel_rfl)) (by rfl) fun eb τ4 n4 s4 v4 => ?_
    replace v4 : τ4 eb = some ⟨tris [⟨I, O, (k : Int)⟩], false⟩ := v4
    simp -implicitDefEqProofs (disch := omega) only [Nat.reduceEqDiff, ↓reduceIte, vcu, ↓vcd]
    have s4' := s3.trans s4
    refine ⟨keep_of rfl (fun p hp => by simp only [List.mem_singleton] at hp; subst hp; exact .inr s4'), tree_one rfl ?_⟩
    refine r_pushC (g := ea) (e := h) (o := o) (cs := []) (ds := cs) (m := cs.length) (len := 0) el44 (by omega) sl44 z9q (s4 _ _ v3) rfl z9q (hv.sub (s1.trans (hs.trans s4'))) rfl (by omega) fun gb τ5 n5 k5 v5 => ?_
    rw [List.nil_append] at v5
    have s5' : Sub τ2 τ5 := k5.sub s4' n3
    have v4' := k5.at v4 (ne_of n4 v3)
    simp -implicitDefEqProofs (disch := omega) only [Nat.reduceEqDiff, ↓reduceIte, vcu, ↓vcd]
    refine ⟨keep_of rfl (fun p hp => by simp only [List.mem_singleton] at hp; subst hp; exact .inr s5'), ?_⟩
    refine tree_one rfl ?_
    refine r_pushC (g := gb) (e := eb) (o := 0) (cs := cs) (ds := [⟨I, O, (k : Int)⟩]) (m := 1) (len := cs.length) el44 (by omega) sl44 (by simp -implicitDefEqProofs (disch := omega) only [Nat.reduceEqDiff, ↓reduceIte, vcu, ↓vcd, Nat.zero_add]) v5 rfl z9q (trisAt_own v4') rfl (by omega) fun gc9 τ9 n9 k9 v9 => ?_
    have s9 : Sub τ2 τ9 := fun z ob e => k9.at (s5' _ _ e) (ne_of' (free_sub s4' n5) e)
    simp -implicitDefEqProofs (disch := omega) only [Nat.reduceEqDiff, ↓reduceIte, vcu, ↓vcd]
    refine ⟨keep_of rfl (fun p hp => by simp only [List.mem_singleton] at hp; subst hp; exact .inr s9), tree_one rfl ?_⟩
    simp -implicitDefEqProofs (disch := omega) only [Nat.reduceEqDiff, ↓reduceIte, vcu, ↓vcd]
    refine (hve2 τ9 gc9 v9).mono ?_
    rintro r τ10 ⟨rfl, e10⟩
    subst e10
    simp -implicitDefEqProofs (disch := omega) only [Nat.reduceEqDiff, ↓reduceIte, vcu, ↓vcd, opK_some]
    refine ⟨keep_of rfl (fun p hp => by simp only [List.mem_singleton] at hp; subst hp; exact .inr s9), tree_stop ?_⟩
    refine ⟨trivial, ⟨?_, ?_, ?_, ?_, ?_, ?_, ?_⟩, s9⟩
    ·simp -implicitDefEqProofs (disch := omega) only [Nat.reduceEqDiff, ↓reduceIte, vcu, ↓vcd, h1]
    ·simp -implicitDefEqProofs (disch := omega) only [Nat.reduceEqDiff, ↓reduceIte, vcu, ↓vcd, h2]
    ·simp -implicitDefEqProofs (disch := omega) only [Nat.reduceEqDiff, ↓reduceIte, vcu, ↓vcd, h3]
    ·simp -implicitDefEqProofs (disch := omega) only [Nat.reduceEqDiff, ↓reduceIte, vcu, ↓vcd, h4]
    ·simp -implicitDefEqProofs (disch := omega) only [Nat.reduceEqDiff, ↓reduceIte, vcu, ↓vcd, h9]
    ·simp -implicitDefEqProofs (disch := omega) only [Nat.reduceEqDiff, ↓reduceIte, vcu, ↓vcd, h10]
    ·simp -implicitDefEqProofs (disch := omega) only [Nat.reduceEqDiff, ↓reduceIte, vcu, ↓vcd]
     rfl
  ·refine r_lit el44 (out := #[.int .i64 I, .int .i64 O, .int .i64 (k : Int)]) (by first | kernel_rfl | (simp -implicitDefEqProofs (disch := omega) only [Nat.reduceEqDiff, ↓reduceIte, vcu, ↓vcd]; kernel_rfl)) (by rfl) fun eb τ3 n3 s3 v3 => ?_
   replace v3 : τ3 eb = some ⟨tris [⟨I, O, (k : Int)⟩], false⟩ := v3
   simp -implicitDefEqProofs (disch := omega) only [Nat.reduceEqDiff, ↓reduceIte, vcu, ↓vcd]
   refine ⟨keep_of rfl (fun p hp => by simp only [List.mem_singleton] at hp; subst hp; exact .inr s3), tree_one rfl ?_⟩
   refine r_lit el44 (out := #[]) (by kernel_rfl) (by kernel_rfl) fun ea τ4 n4 s4 v4 => ?_
   have s4' := s3.trans s4
   simp -implicitDefEqProofs (disch := omega) only [Nat.reduceEqDiff, ↓reduceIte, vcu, ↓vcd]
   refine ⟨keep_of rfl (fun p hp => by simp only [List.mem_singleton] at hp; subst hp; exact .inr s4'), tree_one rfl ?_⟩
   refine r_pushC (g := ea) (e := h) (o := o) (cs := []) (ds := cs) (m := cs.length) (len := 0) el44 (by omega) sl44 z9q v4 rfl z9q (hv.sub (s1.trans (hs.trans s4'))) rfl (by omega) fun gb τ5 n5 k5 v5 => ?_
   rw [List.nil_append] at v5
   have s5' : Sub τ2 τ5 := k5.sub s4' (free_sub s3 n4)
   have v3' := k5.at (s4 _ _ v3) (ne_of' n4 v3)
   simp -implicitDefEqProofs (disch := omega) only [Nat.reduceEqDiff, ↓reduceIte, vcu, ↓vcd]
   refine ⟨keep_of rfl (fun p hp => by simp only [List.mem_singleton] at hp; subst hp; exact .inr s5'), ?_⟩
   refine tree_one rfl ?_
   refine r_pushC (g := gb) (e := eb) (o := 0) (cs := cs) (ds := [⟨I, O, (k : Int)⟩]) (m := 1) (len := cs.length) el44 (by omega) sl44 (by simp -implicitDefEqProofs (disch := omega) only [Nat.reduceEqDiff, ↓reduceIte, vcu, ↓vcd, Nat.zero_add]) v5 rfl z9q (trisAt_own v3') rfl (by omega) fun gc9 τ9 n9 k9 v9 => ?_
   have s9 : Sub τ2 τ9 := fun z ob e => k9.at (s5' _ _ e) (ne_of' (free_sub s4' n5) e)
   simp -implicitDefEqProofs (disch := omega) only [Nat.reduceEqDiff, ↓reduceIte, vcu, ↓vcd]
   refine ⟨keep_of rfl (fun p hp => by simp only [List.mem_singleton] at hp; subst hp; exact .inr s9), tree_one rfl ?_⟩
   simp -implicitDefEqProofs (disch := omega) only [Nat.reduceEqDiff, ↓reduceIte, vcu, ↓vcd]
   refine (hve2 τ9 gc9 v9).mono ?_
   rintro r τ10 ⟨rfl, e10⟩
   subst e10
   simp -implicitDefEqProofs (disch := omega) only [Nat.reduceEqDiff, ↓reduceIte, vcu, ↓vcd, opK_some]
   refine ⟨keep_of rfl (fun p hp => by simp only [List.mem_singleton] at hp; subst hp; exact .inr s9), tree_stop ?_⟩
   refine ⟨trivial, ⟨?_, ?_, ?_, ?_, ?_, ?_, ?_⟩, s9⟩
   ·simp -implicitDefEqProofs (disch := omega) only [Nat.reduceEqDiff, ↓reduceIte, vcu, ↓vcd, h1]
   ·simp -implicitDefEqProofs (disch := omega) only [Nat.reduceEqDiff, ↓reduceIte, vcu, ↓vcd, h2]
   ·simp -implicitDefEqProofs (disch := omega) only [Nat.reduceEqDiff, ↓reduceIte, vcu, ↓vcd, h3]
   ·simp -implicitDefEqProofs (disch := omega) only [Nat.reduceEqDiff, ↓reduceIte, vcu, ↓vcd, h4]
   ·simp -implicitDefEqProofs (disch := omega) only [Nat.reduceEqDiff, ↓reduceIte, vcu, ↓vcd, h9]
   ·simp -implicitDefEqProofs (disch := omega) only [Nat.reduceEqDiff, ↓reduceIte, vcu, ↓vcd, h10]
   ·simp -implicitDefEqProofs (disch := omega) only [Nat.reduceEqDiff, ↓reduceIte, vcu, ↓vcd]
    rfl
 rintro _ a' τ8 ⟨rfl, ⟨f1, f2, f3, f4, f9, f10, f33⟩, s8⟩
 by_cases hF : Free s cs I O k
 ·rw [decide_eq_true hF] at f33
  rw [if_pos hF] at hsucc
  have hg8 := s8 _ _ hg
  simp -implicitDefEqProofs (disch := omega) only [Nat.reduceEqDiff, ↓reduceIte, vcu, ↓vcd, f1, f2, f3, f4, f9, f10, f33]
  refine r_lit el54 (out := #[.int .i64 (k : Int)]) (by first | kernel_rfl | (simp -implicitDefEqProofs (disch := omega) only [Nat.reduceEqDiff, ↓reduceIte, vcu, ↓vcd, f10]; kernel_rfl)) (by rfl) fun e3 τ9 n9 s9 v9 => ?_
  refine r_pushI (g := g) (e := e3) (o := 0) (k := .i64) (xs := freeL s cs I O k) (ys := [(k : Int)]) (m := 1) (len := (freeL s cs I O k).length) el54 (by omega) sl54 (by simp -implicitDefEqProofs (disch := omega) only [Nat.reduceEqDiff, ↓reduceIte, vcu, ↓vcd, f9]) (s9 _ _ hg8) rfl z9q (intsAt_own v9) rfl (by omega) fun g6 τ6 n6 k6 v6 => ?_
  rw [← hsucc] at v6
  have hle2 : (freeL s cs I O k).length + 1 = (freeL s cs I O (k + 1)).length := by rw [hsucc]; simp
  have hs9 := (hs.trans s8).trans s9
  simp -implicitDefEqProofs (disch := omega) only [Nat.reduceEqDiff, ↓reduceIte, vcu, ↓vcd, f1, f2, f3, f4, f10, hle2]
  exact ⟨⟨trivial, trivial, trivial, trivial, trivial⟩, m - 1, by omega, k + 1, g6, by omega, by simp, rfl, k6.sub hs9 hn, v6, free_sub hs9 n6⟩
 ·rw [decide_eq_false hF] at f33
  rw [if_neg hF, List.append_nil] at hsucc
  simp -implicitDefEqProofs (disch := omega) only [Nat.reduceEqDiff, ↓reduceIte, vcu, ↓vcd, f1, f2, f3, f4, f9, f10, f33]
  exact ⟨⟨trivial, trivial, trivial, trivial, trivial⟩, m - 1, by omega, k + 1, g, by omega, by simp, by rw [hsucc], hs.trans s8, by rw [hsucc]; exact s8 _ _ hg, hn⟩
end Go.Proofs.YtofdnmlpfagibaaDoor
namespace Go.Proofs.YtofdnmlpfagibaaDoor
open Go Go.Abs Go.RowKit Go.Clos
variable {w0 : World}
def mvOk (s : Sp) (cs : List Cl) (i o : Int) : Prop := (CV s cs ∧ Enough s) ∧ Lines s i o ∧ ¬ Busy cs i o
instance (s : Sp) (cs : List Cl) (i o : Int) : Decidable (mvOk s cs i o) := by unfold mvOk; infer_instance
def mvL (s : Sp) (cs : List Cl) (i o : Int) : List Cl := if CV s cs ∧ Enough s then if mvOk s cs i o then moveL s cs i o else cs else []
theorem mvL_no {s : Sp} {cs : List Cl} {i o : Int} (h : ¬ (CV s cs ∧ Enough s)) : mvL s cs i o = [] := by unfold mvL; rw [if_neg h]
theorem mvL_same {s : Sp} {cs : List Cl} {i o : Int} (h : CV s cs ∧ Enough s) (h2 : ¬ mvOk s cs i o) : mvL s cs i o = cs := by unfold mvL; rw [if_pos h, if_neg h2]
theorem mvL_ok {s : Sp} {cs : List Cl} {i o : Int} (h2 : mvOk s cs i o) : mvL s cs i o = moveL s cs i o := by unfold mvL; rw [if_pos h2.1, if_pos h2]
theorem ownI_lenC {β σ : AHeap} {v : Value} {xs : List Int} (h : OwnI β σ v xs) : alenV Tryd.prog 54 v = some (.int .i64 (xs.length : Int)) := by
 rcases h with ⟨rfl, rfl⟩ | ⟨g, rfl, -, -⟩
 ·exact alenV_slice Tryd.underlying54
 ·exact alenV_slice Tryd.underlying54
theorem rowI_of {β σ : AHeap} {v : Value} {xs : List Int} (h : OwnI β σ v xs) (h0 : 0 < xs.length) : ∃ g, v = .slice (some ⟨g, 0, none⟩) xs.length 1 ∧ σ g = some ⟨ints .i64 xs, false⟩ ∧ β g = none := by
 rcases h with ⟨_, rfl⟩ | ⟨g, e1, e2, e3⟩
 ·simp at h0
 ·exact ⟨g, e1, e2, e3⟩
theorem all_le {s : Sp} {cs : List Cl} {a b B : Int} {ch : List Nat} {sd : Bool} {x : Int} (h : Inv s cs a b B ch sd x) : ch.length ≤ cs.length := by
 have := sub_len (xs := ch) (ys := List.range cs.length) h.nd fun y hy => List.mem_range.2 (h.lt y hy)
 simpa using this
set_option maxRecDepth 8000 in
set_option maxHeartbeats 1600000 in
set_option maxRecDepth 8000 in
theorem specMove_at (σ : AHeap) (s : Sp) (h o : Nat) (cs : List Cl) (I O : Int) (hv : TrisAt σ h o cs) (hl : cs.length ≤ 1048576) :
  ACall Tryd.prog w0 57 [.agg #[.int .i64 s.O, .int .i64 s.E, .int .i64 s.M], .slice (some ⟨h, o, none⟩) cs.length 3, .int .i64 I, .int .i64 O] σ fun r σ' => ∃ v, r = .tuple #[v, .bool (decide (mvOk s cs I O))] ∧ Sub σ σ' ∧ OwnC σ σ' v (mvL s cs I O) := by
 refine acall_go mixed Tryd.func57 rfl good57 fun pr => ?_
 simp -implicitDefEqProofs (disch := omega) only [Nat.reduceEqDiff, ↓reduceIte, vcu, ↓vcd]
 refine r_boxed fun b τ nb s1 e1 => ?_
 replace e1 : τ b = some ⟨[.int .i64 s.O, .int .i64 s.E, .int .i64 s.M], false⟩ := e1
 have m3 : ∀ τ', Sub τ τ' → lds τ' b 0 3 = some [.int .i64 s.O, .int .i64 s.E, .int .i64 s.M] := fun τ' hs => lds_three (ld_of (hs _ _ e1) rfl) (ld_of (hs _ _ e1) rfl) (ld_of (hs _ _ e1) rfl)
 have mE : ∀ τ', Sub τ τ' → ld τ' b (0 + 1) = some (.int .i64 s.E) := fun τ' hs => ld_of (hs _ _ e1) rfl
 have l3 := m3 τ (Sub.refl _)
 simp -implicitDefEqProofs (disch := omega) only [Nat.reduceEqDiff, ↓reduceIte, vcu, ↓vcd, l3, co42]
 refine (specCV_at τ s.O s.E s.M h o cs (hv.sub s1) hl).mono ?_
 rintro r _ ⟨rfl, rfl⟩
 rename_i τ
 by_cases hC : CV s cs
 case neg =>
  rw [decide_eq_false hC, mvL_no fun hh => hC hh.1, decide_eq_false fun hh : mvOk s cs I O => hC hh.1.1]
  simp -implicitDefEqProofs (disch := omega) only [Nat.reduceEqDiff, ↓reduceIte, vcu, ↓vcd, opK_some, Bool.not_false]
  refine r_lit el44 (out := #[]) (by kernel_rfl) (by kernel_rfl) fun ea τ3 n3 s3 v3 => ?_
  simp -implicitDefEqProofs (disch := omega) only [Nat.reduceEqDiff, ↓reduceIte, vcu, ↓vcd]
  refine fin_two Tryd.results57 ⟨.slice (some ⟨ea, 0, none⟩) 0 3, ?_, s1.trans s3, .inr ⟨ea, rfl, v3, free_sub s1 n3⟩⟩
  simp -implicitDefEqProofs (disch := omega) only [Nat.reduceEqDiff, ↓reduceIte, vcu, ↓vcd]
 rw [decide_eq_true hC]
 simp -implicitDefEqProofs (disch := omega) only [Nat.reduceEqDiff, ↓reduceIte, vcu, ↓vcd, opK_some, Bool.not_true, l3, co42]
 refine (specEnough_at τ s.O s.E s.M).mono ?_
 rintro r _ ⟨rfl, rfl⟩
 rename_i τ
 by_cases hE : Enough s
 case neg =>
  rw [decide_eq_false hE, mvL_no fun hh => hE hh.2, decide_eq_false fun hh : mvOk s cs I O => hE hh.1.2]
  simp -implicitDefEqProofs (disch := omega) only [Nat.reduceEqDiff, ↓reduceIte, vcu, ↓vcd, opK_some, Bool.not_false]
  refine r_lit el44 (out := #[]) (by kernel_rfl) (by kernel_rfl) fun ea τ3 n3 s3 v3 => ?_
  simp -implicitDefEqProofs (disch := omega) only [Nat.reduceEqDiff, ↓reduceIte, vcu, ↓vcd]
  refine fin_two Tryd.results57 ⟨.slice (some ⟨ea, 0, none⟩) 0 3, ?_, s1.trans s3, .inr ⟨ea, rfl, v3, free_sub s1 n3⟩⟩
  simp -implicitDefEqProofs (disch := omega) only [Nat.reduceEqDiff, ↓reduceIte, vcu, ↓vcd]
 rw [decide_eq_true hE]
 have hS := hC.1
 have hLn := hS.lines
 have hEE := hS.2.1
 have hMM := hS.2.2
 have hl12 := hC.len
 simp -implicitDefEqProofs (disch := omega) only [Nat.reduceEqDiff, ↓reduceIte, vcu, ↓vcd, opK_some, Bool.not_true]
 refine r_lit el44 (out := #[]) (by kernel_rfl) (by kernel_rfl) fun ea τ3 n3 s3 v3 => ?_
 simp -implicitDefEqProofs (disch := omega) only [Nat.reduceEqDiff, ↓reduceIte, vcu, ↓vcd]
 refine r_pushC (g := ea) (e := h) (o := o) (cs := []) (ds := cs) (m := cs.length) (len := 0) el44 (by omega) sl44 z9q v3 rfl z9q (hv.sub (s1.trans s3)) rfl (by omega) fun gb τ4 n4 k4 v4 => ?_
 rw [List.nil_append] at v4
 have hs4 : Sub τ τ4 := k4.sub s3 n3
 have nτb : τ gb = none := free_sub s3 n4
 have nσb : σ gb = none := free_sub s1 nτb
 have l4 := m3 τ4 hs4
 clear v3 n3 s3 k4 n4
 have hso := fun (hh : ¬ mvOk s cs I O) => (⟨mvL_same ⟨hC, hE⟩ hh, decide_eq_false hh⟩ : mvL s cs I O = cs ∧ decide (mvOk s cs I O) = false)
 simp -implicitDefEqProofs (disch := omega) only [Nat.reduceEqDiff, ↓reduceIte, vcu, ↓vcd, l4, co42, Nat.zero_add]
 refine (specLines_at τ4 s.O s.E s.M hS).mono ?_
 rintro r _ ⟨rfl, rfl⟩
 rename_i τ4
 simp -implicitDefEqProofs (disch := omega) only [Nat.reduceEqDiff, ↓reduceIte, vcu, ↓vcd, opK_some]
 refine (in_calls τ4 I 0 (s.O * s.E - 1)).mono ?_
 rintro r _ ⟨rfl, rfl⟩
 rename_i τ4
 by_cases hI : 0 ≤ I ∧ I ≤ s.O * s.E - 1
 case neg =>
  obtain ⟨q1, q2⟩ := hso fun hh => hI hh.2.1.1
  rw [decide_eq_false hI, q1, q2]
  simp -implicitDefEqProofs (disch := omega) only [Nat.reduceEqDiff, ↓reduceIte, vcu, ↓vcd, opK_some, Bool.not_false]
  refine fin_two Tryd.results57 ⟨.slice (some ⟨gb, 0, none⟩) cs.length 3, ?_, s1.trans hs4, .inr ⟨gb, rfl, v4, nσb⟩⟩
  simp -implicitDefEqProofs (disch := omega) only [Nat.reduceEqDiff, ↓reduceIte, vcu, ↓vcd]
 rw [decide_eq_true hI]
 simp -implicitDefEqProofs (disch := omega) only [Nat.reduceEqDiff, ↓reduceIte, vcu, ↓vcd, opK_some, Bool.not_true, l4, co42]
 refine (specLines_at τ4 s.O s.E s.M hS).mono ?_
 rintro r _ ⟨rfl, rfl⟩
 rename_i τ4
 simp -implicitDefEqProofs (disch := omega) only [Nat.reduceEqDiff, ↓reduceIte, vcu, ↓vcd, opK_some]
 refine (in_calls τ4 O 0 (s.O * s.E - 1)).mono ?_
 rintro r _ ⟨rfl, rfl⟩
 rename_i τ4
 by_cases hO : 0 ≤ O ∧ O ≤ s.O * s.E - 1
 case neg =>
  obtain ⟨q1, q2⟩ := hso fun hh => hO hh.2.1.2
  rw [decide_eq_false hO, q1, q2]
  simp -implicitDefEqProofs (disch := omega) only [Nat.reduceEqDiff, ↓reduceIte, vcu, ↓vcd, opK_some, Bool.not_false]
  refine fin_two Tryd.results57 ⟨.slice (some ⟨gb, 0, none⟩) cs.length 3, ?_, s1.trans hs4, .inr ⟨gb, rfl, v4, nσb⟩⟩
  simp -implicitDefEqProofs (disch := omega) only [Nat.reduceEqDiff, ↓reduceIte, vcu, ↓vcd]
 rw [decide_eq_true hO]
 simp -implicitDefEqProofs (disch := omega) only [Nat.reduceEqDiff, ↓reduceIte, vcu, ↓vcd, opK_some, Bool.not_true]
 refine (specBusy_at τ4 h o cs I O (hv.sub (s1.trans hs4)) hl).mono ?_
 rintro r _ ⟨rfl, rfl⟩
 rename_i τ4
 by_cases hB : Busy cs I O
 ·obtain ⟨q1, q2⟩ := hso fun hh => hh.2.2 hB
  rw [decide_eq_true hB, q1, q2]
  simp -implicitDefEqProofs (disch := omega) only [Nat.reduceEqDiff, ↓reduceIte, vcu, ↓vcd, opK_some]
  refine fin_two Tryd.results57 ⟨.slice (some ⟨gb, 0, none⟩) cs.length 3, ?_, s1.trans hs4, .inr ⟨gb, rfl, v4, nσb⟩⟩
  simp -implicitDefEqProofs (disch := omega) only [Nat.reduceEqDiff, ↓reduceIte, vcu, ↓vcd]
 have hok : mvOk s cs I O := ⟨⟨hC, hE⟩, ⟨hI, hO⟩, hB⟩
 have hLi : Lines s I O := ⟨hI, hO⟩
 rw [decide_eq_false hB, mvL_ok hok, decide_eq_true hok]
 clear hso
 simp -implicitDefEqProofs (disch := omega) only [Nat.reduceEqDiff, ↓reduceIte, vcu, ↓vcd, opK_some, l4, co42]
 refine (specFree_at τ4 s h o cs I O (hv.sub (s1.trans hs4)) hl).mono ?_
 rintro vf τ5 ⟨s5, wf⟩
 have hs5 := hs4.trans s5
 have hlf := ownI_lenC wf
 have v5 := s5 _ _ v4
 cases hf : freeV s cs I O with
 | cons v0 vs =>
  have hml : moveL s cs I O = cs ++ [⟨I, O, v0⟩] := by unfold moveL; rw [hf]
  rw [hf] at wf hlf
  obtain ⟨gf, rfl, wf1, -⟩ := rowI_of wf (by simp)
  have lx := intsAt_own wf1 0 (by simp)
  have hg0 : (v0 :: vs).getD 0 0 = v0 := rfl
  rw [hg0] at lx
  have hpos : (0 : Int) < ((v0 :: vs).length : Int) := by simp
  have hpos' : 0 < (v0 :: vs).length := by simp
  rw [hml]
  generalize (v0 :: vs).length = lf at hlf hpos hpos'
  simp -implicitDefEqProofs (disch := omega) only [Nat.reduceEqDiff, ↓reduceIte, vcu, ↓vcd, opK_some, hlf, lx, Int.toNat_zero, Nat.mul_one]
  rw [r_build]
  refine ⟨(_, #[.int .i64 I, .int .i64 O, .int .i64 v0]), ⟨ze79, by simp -implicitDefEqProofs (disch := omega) only [Nat.reduceEqDiff, ↓reduceIte, vcu, ↓vcd]; kernel_rfl⟩, ?_⟩
  simp -implicitDefEqProofs (disch := omega) only [Nat.reduceEqDiff, ↓reduceIte, vcu, ↓vcd]
  refine r_lit el44 (out := #[.int .i64 I, .int .i64 O, .int .i64 v0]) (by first | kernel_rfl | (simp -implicitDefEqProofs (disch := omega) only [Nat.reduceEqDiff, ↓reduceIte, vcu, ↓vcd]; kernel_rfl)) (by rfl) fun eb τ6 n6 s6 v6 => ?_
  replace v6 : τ6 eb = some ⟨tris [⟨I, O, v0⟩], false⟩ := v6
  refine r_pushC (g := gb) (e := eb) (o := 0) (cs := cs) (ds := [⟨I, O, v0⟩]) (m := 1) (len := cs.length) el44 (by omega) sl44 z9q (s6 _ _ v5) rfl z9q (trisAt_own v6) rfl (by omega) fun gc9 τ9 n9 k9 v9 => ?_
  have s9 : Sub τ τ9 := k9.sub (hs5.trans s6) nτb
  simp -implicitDefEqProofs (disch := omega) only [Nat.reduceEqDiff, ↓reduceIte, vcu, ↓vcd]
  refine fin_two Tryd.results57 ⟨.slice (some ⟨gc9, 0, none⟩) (cs.length + 1) 3, ?_, s1.trans s9, .inr ⟨gc9, by simp, v9, free_sub (s1.trans (hs5.trans s6)) n9⟩⟩
  simp -implicitDefEqProofs (disch := omega) only [Nat.reduceEqDiff, ↓reduceIte, vcu, ↓vcd]
 | nil =>
  have hwa := wayA_ok hE hC hLi hB
  have hwb := wayB_ok hE hC hLi hB
  have hne := way_ne hE hC hLi hB hf
  have hfr := way_free hE hC hLi hB
  have hml : moveL s cs I O = flip (wayA s cs I) (wayB s cs O) (chain s cs (wayA s cs I) (wayB s cs O) (O / s.E)) cs ++ [⟨I, O, wayA s cs I⟩] := by unfold moveL; rw [hf]
  have hch := chain_ok hE hC hLi hB hf
  have hA0 : firstN (usedI s cs (I / s.E)) s.M.toNat 0 = wayA s cs I := rfl
  have hB0 : firstN (usedO s cs (O / s.E)) s.M.toNat 0 = wayB s cs O := rfl
  have hst := inv_start hC hne hfr
  rw [hml]
  rw [hf] at hlf
  have hR := hC.2.1
  have hlI := (used_length s cs (I / s.E)).1
  have hlO := (used_length s cs (O / s.E)).2
  clear hml wf hf hok hLi hB
  have hCC : go s cs (wayA s cs I) (wayB s cs O) cs.length [] true (O / s.E) = chain s cs (wayA s cs I) (wayB s cs O) (O / s.E) := rfl
  generalize chain s cs (wayA s cs I) (wayB s cs O) (O / s.E) = C at *
  generalize wayA s cs I = A at *
  generalize wayB s cs O = B at *
  have l5 := m3 τ5 hs5
  have lE5 := mE τ5 hs5
  simp -implicitDefEqProofs (disch := omega) only [Nat.reduceEqDiff, ↓reduceIte, vcu, ↓vcd, opK_some, hlf, List.length_nil, Int.natCast_zero]
  refine region_tree mixed (quiets [0, 1, 2, 3, 4, 5, 6] (.one 7 (.one 8 (quiets [9] .stop)))) [([0, 1, 2, 3, 4, 5, 6], Sub τ5)] (by kernel_rfl) (by kernel_rfl) (fun p hp => by simp only [List.mem_singleton] at hp; subst hp; exact Sub.refl _) ?_
  refine tree_quiets τ5 _ _ _ sf1 (by kernel_rfl) (by kernel_rfl) ?_
  simp -implicitDefEqProofs (disch := omega) only [Nat.reduceEqDiff, ↓reduceIte, vcu, ↓vcd, pickOps_nil, pickOps_cons, pickO_some, List.getElem?_cons_succ, List.getElem?_cons_zero, l5, lE5, co42]
  refine tree_one rfl ?_
  simp -implicitDefEqProofs (disch := omega) only [Nat.reduceEqDiff, ↓reduceIte, vcu, ↓vcd]
  refine (specUsedI_at τ5 s h o cs (I / s.E) (hv.sub (s1.trans hs5)) hl hR hS).mono ?_
  rintro vu τ6 ⟨s6, wu⟩
  simp -implicitDefEqProofs (disch := omega) only [Nat.reduceEqDiff, ↓reduceIte, vcu, ↓vcd, opK_some]
  refine ⟨keep_of rfl (fun p hp => by simp only [List.mem_singleton] at hp; subst hp; exact .inr s6), tree_one rfl ?_⟩
  simp -implicitDefEqProofs (disch := omega) only [Nat.reduceEqDiff, ↓reduceIte, vcu, ↓vcd]
  refine (ACall.ints_quiet (pre := [_]) (post := []) (by kernel_rfl) wu.ints fun σ1 g p _ hg => specFirst_at σ1 s.O s.E s.M g p _ hg (by omega) (by omega)).mono ?_
  rintro r τ7 ⟨rfl, e7⟩
  subst e7
  rw [hA0]
  simp -implicitDefEqProofs (disch := omega) only [Nat.reduceEqDiff, ↓reduceIte, vcu, ↓vcd, opK_some]
  refine ⟨keep_of rfl (fun p hp => by simp only [List.mem_singleton] at hp; subst hp; exact .inr s6), ?_⟩
  refine tree_quiets (fun _ => none) _ _ _ (fun _ _ _ _ => fun x ob e => by cases e) (by kernel_rfl) (by kernel_rfl) ?_
  simp -implicitDefEqProofs (disch := omega) only [Nat.reduceEqDiff, ↓reduceIte, vcu, ↓vcd, pickOps_nil, pickOps_cons, pickO_some, List.getElem?_cons_succ, List.getElem?_cons_zero]
  refine tree_stop ?_
  have hs6 := hs5.trans s6
  have l6 := m3 _ hs6
  have lE6 := mE _ hs6
  have v6 := s6 _ _ v5
  clear wu
  simp -implicitDefEqProofs (disch := omega) only [Nat.reduceEqDiff, ↓reduceIte, vcu, ↓vcd]
  refine region_tree mixed (quiets [0, 1, 2, 3, 4, 5, 6] (.one 7 (.one 8 (quiets [9] .stop)))) [([0, 1, 2, 3, 4, 5, 6], Sub τ7)] (by kernel_rfl) (by kernel_rfl) (fun p hp => by simp only [List.mem_singleton] at hp; subst hp; exact Sub.refl _) ?_
  refine tree_quiets τ7 _ _ _ sf1 (by kernel_rfl) (by kernel_rfl) ?_
  simp -implicitDefEqProofs (disch := omega) only [Nat.reduceEqDiff, ↓reduceIte, vcu, ↓vcd, pickOps_nil, pickOps_cons, pickO_some, List.getElem?_cons_succ, List.getElem?_cons_zero, l6, lE6, co42]
  refine tree_one rfl ?_
  simp -implicitDefEqProofs (disch := omega) only [Nat.reduceEqDiff, ↓reduceIte, vcu, ↓vcd]
  refine (specUsedO_at τ7 s h o cs (O / s.E) (hv.sub (s1.trans hs6)) hl hR hS).mono ?_
  rintro vu τ8 ⟨s7, wu⟩
  simp -implicitDefEqProofs (disch := omega) only [Nat.reduceEqDiff, ↓reduceIte, vcu, ↓vcd, opK_some]
  refine ⟨keep_of rfl (fun p hp => by simp only [List.mem_singleton] at hp; subst hp; exact .inr s7), tree_one rfl ?_⟩
  simp -implicitDefEqProofs (disch := omega) only [Nat.reduceEqDiff, ↓reduceIte, vcu, ↓vcd]
  refine (ACall.ints_quiet (pre := [_]) (post := []) (by kernel_rfl) wu.ints fun σ1 g p _ hg => specFirst_at σ1 s.O s.E s.M g p _ hg (by omega) (by omega)).mono ?_
  rintro r τ9 ⟨rfl, e8⟩
  subst e8
  rw [hB0]
  simp -implicitDefEqProofs (disch := omega) only [Nat.reduceEqDiff, ↓reduceIte, vcu, ↓vcd, opK_some]
  refine ⟨keep_of rfl (fun p hp => by simp only [List.mem_singleton] at hp; subst hp; exact .inr s7), ?_⟩
  refine tree_quiets (fun _ => none) _ _ _ (fun _ _ _ _ => fun x ob e => by cases e) (by kernel_rfl) (by kernel_rfl) ?_
  simp -implicitDefEqProofs (disch := omega) only [Nat.reduceEqDiff, ↓reduceIte, vcu, ↓vcd, pickOps_nil, pickOps_cons, pickO_some, List.getElem?_cons_succ, List.getElem?_cons_zero]
  refine tree_stop ?_
  have hs9 := hs6.trans s7
  have v9 := s7 _ _ v6
  clear wu l5 lE5 l6 lE6 v6 v5 v4 l4 s5 s6 s7 hs6 hs5 hs4 hlI hlO hlf
  simp -implicitDefEqProofs (disch := omega) only [Nat.reduceEqDiff, ↓reduceIte, vcu, ↓vcd]
  refine r_lit el54 (out := #[]) (by kernel_rfl) (by kernel_rfl) fun gc0 τ10 n10 s10 v10 => ?_
  have hs10 := hs9.trans s10
  have w10 := s10 _ _ v9
  have lE10 := mE _ hs10
  simp -implicitDefEqProofs (disch := omega) only [Nat.reduceEqDiff, ↓reduceIte, vcu, ↓vcd, lE10]
  refine vc_loop_c mixed (by kernel_rfl) [2, 3, 4, 10, 12, 13] (fun m a τ' => ∃ (ch : List Nat) (sd : Bool) (x : Int) (gl : Nat), a 14 = .slice (some ⟨gl, 0, none⟩) ch.length 1 ∧ τ' gl = some ⟨ints .i64 (chI ch), false⟩ ∧ τ9 gl = none ∧ a 15 = .int .i64 (if sd = true then 1 else 0) ∧ a 16 = .int .i64 x ∧ a 17 = .int .i64 (wantOf A B sd) ∧ Sub τ9 τ' ∧ Inv s cs A B (O / s.E) ch sd x ∧ cs.length ≤ ch.length + m ∧ go s cs A B m ch sd x = C) cs.length ⟨[], true, O / s.E, gc0, rfl, v10, n10, rfl, rfl, rfl, s10, hst, by simp, hCC⟩ ?_
  clear hCC hst v10 n10 w10 lE10 s10 hs10
  rintro m a τ11 hc ⟨ch, sd, x, gl, h14, vl, nl, h15, h16, h17, hs11, hinv, hlen, hgo⟩
  simp -implicitDefEqProofs (disch := omega) only [Nat.reduceEqDiff, ↓reduceIte, vcu, ↓vcd] at hc
  obtain ⟨h2, h3, h4, h10, h12, h13, -⟩ := hc
  have wb := hs11 _ _ v9
  have lE := mE _ (hs9.trans hs11)
  simp -implicitDefEqProofs (disch := omega) only [Nat.reduceEqDiff, ↓reduceIte, vcu, ↓vcd, h2, h3, h4, h10, h12, h13, h14, h15, h16, h17]
  refine vc_loop_c mixed (by kernel_rfl) [2, 3, 4, 10, 12, 13, 14, 15, 16, 17] (fun m a τ' => ∃ k : Nat, m + k = cs.length ∧ a 19 = .int .i64 k ∧ a 18 = .int .i64 (nI (nxt s cs ch sd x (wantOf A B sd) k)) ∧ τ' = τ11) cs.length ⟨0, by simp, rfl, rfl, rfl⟩ ?_
  rintro m2 a2 τ12 hc2 ⟨k, hk, h19, h18, e12⟩
  subst e12
  simp -implicitDefEqProofs (disch := omega) only [Nat.reduceEqDiff, ↓reduceIte, vcu, ↓vcd, h2, h3, h4, h10, h12, h13, h14, h15, h16, h17] at hc2
  obtain ⟨g2, g3, g4, g10, g12, g13, g14, g15, g16, g17, -⟩ := hc2
  by_cases hlt : k < cs.length
  ·have hgk : cs.getD k cl0 = gc cs k := rfl
   obtain ⟨x1, x2, x3⟩ := trisAt_own wb k hlt
   rw [hgk] at x1 x2 x3
   have hm := hR _ (gc_mem hlt)
   have hnx := nxt_succ s cs ch sd x (wantOf A B sd) k
   have hh := has_at (w0 := w0) τ12 gl 0 (chI ch) k (intsAt_own vl) (by rw [chI_length]; have := all_le hinv; omega)
   rw [chI_length] at hh
   generalize gc cs k = c at x1 x2 x3 hm hnx
   obtain ⟨⟨a1, a2⟩, ⟨a3, a4⟩, -⟩ := hm
   cases sd with
   | true =>
    have w1 : wantOf A B true = A := rfl
    rw [w1] at g17 h18 hnx
    have e15 : (if (true : Bool) = true then (1 : Int) else 0) = 1 := rfl
    rw [e15] at g15
    by_cases c1 : c.o / s.E = x
    ·by_cases c2 : c.v = A
     ·simp -implicitDefEqProofs (disch := omega) only [Nat.reduceEqDiff, ↓reduceIte, vcu, ↓vcd, g2, g3, g4, g10, g12, g13, g14, g15, g16, g17, h18, h19, x1, x2, x3, lE, Int.toNat_natCast, Nat.add_zero]
      refine hh.mono ?_
      rintro r τ13 ⟨rfl, e13⟩
      subst e13
      by_cases c3 : k ∈ ch
      ·rw [decide_eq_true (mem_chI.2 c3)]
       rw [if_neg fun hh => hh.2 c3] at hnx
       simp -implicitDefEqProofs (disch := omega) only [Nat.reduceEqDiff, ↓reduceIte, vcu, ↓vcd, opK_some, Bool.not_true, g2, g3, g4, g10, g12, g13, g14, g15, g16, g17, h18, h19]
       exact ⟨⟨(by first | trivial | rfl | exact Eq.symm (by assumption)), (by first | trivial | rfl | exact Eq.symm (by assumption)), (by first | trivial | rfl | exact Eq.symm (by assumption)), (by first | trivial | rfl | exact Eq.symm (by assumption)), (by first | trivial | rfl | exact Eq.symm (by assumption)), (by first | trivial | rfl | exact Eq.symm (by assumption)), (by first | trivial | rfl | exact Eq.symm (by assumption)), (by first | trivial | rfl | exact Eq.symm (by assumption)), (by first | trivial | rfl | exact Eq.symm (by assumption)), (by first | trivial | rfl | exact Eq.symm (by assumption)), (by first | trivial | rfl | exact Eq.symm (by assumption))⟩, m2 - 1, by omega, k + 1, by omega, by simp, by rw [w1, hnx], (by first | trivial | rfl | exact Eq.symm (by assumption))⟩
      ·rw [decide_eq_false (fun hm => c3 (mem_chI.1 hm))]
       rw [if_pos ⟨⟨c1, c2⟩, c3⟩] at hnx
       simp -implicitDefEqProofs (disch := omega) only [Nat.reduceEqDiff, ↓reduceIte, vcu, ↓vcd, opK_some, Bool.not_false, g2, g3, g4, g10, g12, g13, g14, g15, g16, g17, h18, h19]
       exact ⟨⟨(by first | trivial | rfl | exact Eq.symm (by assumption)), (by first | trivial | rfl | exact Eq.symm (by assumption)), (by first | trivial | rfl | exact Eq.symm (by assumption)), (by first | trivial | rfl | exact Eq.symm (by assumption)), (by first | trivial | rfl | exact Eq.symm (by assumption)), (by first | trivial | rfl | exact Eq.symm (by assumption)), (by first | trivial | rfl | exact Eq.symm (by assumption)), (by first | trivial | rfl | exact Eq.symm (by assumption)), (by first | trivial | rfl | exact Eq.symm (by assumption)), (by first | trivial | rfl | exact Eq.symm (by assumption)), (by first | trivial | rfl | exact Eq.symm (by assumption))⟩, m2 - 1, by omega, k + 1, by omega, by simp, by rw [w1, hnx], (by first | trivial | rfl | exact Eq.symm (by assumption))⟩
     ·rw [if_neg fun hh => c2 hh.1.2] at hnx
      simp -implicitDefEqProofs (disch := omega) only [Nat.reduceEqDiff, ↓reduceIte, vcu, ↓vcd, g2, g3, g4, g10, g12, g13, g14, g15, g16, g17, h18, h19, x1, x2, x3, lE, Int.toNat_natCast, Nat.add_zero]
      exact ⟨⟨(by first | trivial | rfl | exact Eq.symm (by assumption)), (by first | trivial | rfl | exact Eq.symm (by assumption)), (by first | trivial | rfl | exact Eq.symm (by assumption)), (by first | trivial | rfl | exact Eq.symm (by assumption)), (by first | trivial | rfl | exact Eq.symm (by assumption)), (by first | trivial | rfl | exact Eq.symm (by assumption)), (by first | trivial | rfl | exact Eq.symm (by assumption)), (by first | trivial | rfl | exact Eq.symm (by assumption)), (by first | trivial | rfl | exact Eq.symm (by assumption)), (by first | trivial | rfl | exact Eq.symm (by assumption)), (by first | trivial | rfl | exact Eq.symm (by assumption))⟩, m2 - 1, by omega, k + 1, by omega, by simp, by rw [w1, hnx], (by first | trivial | rfl | exact Eq.symm (by assumption))⟩
    ·rw [if_neg fun hh => c1 hh.1.1] at hnx
     simp -implicitDefEqProofs (disch := omega) only [Nat.reduceEqDiff, ↓reduceIte, vcu, ↓vcd, g2, g3, g4, g10, g12, g13, g14, g15, g16, g17, h18, h19, x1, x2, x3, lE, Int.toNat_natCast, Nat.add_zero]
     exact ⟨⟨(by first | trivial | rfl | exact Eq.symm (by assumption)), (by first | trivial | rfl | exact Eq.symm (by assumption)), (by first | trivial | rfl | exact Eq.symm (by assumption)), (by first | trivial | rfl | exact Eq.symm (by assumption)), (by first | trivial | rfl | exact Eq.symm (by assumption)), (by first | trivial | rfl | exact Eq.symm (by assumption)), (by first | trivial | rfl | exact Eq.symm (by assumption)), (by first | trivial | rfl | exact Eq.symm (by assumption)), (by first | trivial | rfl | exact Eq.symm (by assumption)), (by first | trivial | rfl | exact Eq.symm (by assumption)), (by first | trivial | rfl | exact Eq.symm (by assumption))⟩, m2 - 1, by omega, k + 1, by omega, by simp, by rw [w1, hnx], (by first | trivial | rfl | exact Eq.symm (by assumption))⟩
   | false =>
    have w1 : wantOf A B false = B := rfl
    rw [w1] at g17 h18 hnx
    have e15 : (if (false : Bool) = true then (1 : Int) else 0) = 0 := rfl
    rw [e15] at g15
    by_cases c1 : c.i / s.E = x
    ·by_cases c2 : c.v = B
     ·simp -implicitDefEqProofs (disch := omega) only [Nat.reduceEqDiff, ↓reduceIte, vcu, ↓vcd, g2, g3, g4, g10, g12, g13, g14, g15, g16, g17, h18, h19, x1, x2, x3, lE, Int.toNat_natCast, Nat.add_zero]
      refine hh.mono ?_
      rintro r τ13 ⟨rfl, e13⟩
      subst e13
      by_cases c3 : k ∈ ch
      ·rw [decide_eq_true (mem_chI.2 c3)]
       rw [if_neg fun hh => hh.2 c3] at hnx
       simp -implicitDefEqProofs (disch := omega) only [Nat.reduceEqDiff, ↓reduceIte, vcu, ↓vcd, opK_some, Bool.not_true, g2, g3, g4, g10, g12, g13, g14, g15, g16, g17, h18, h19]
       exact ⟨⟨(by first | trivial | rfl | exact Eq.symm (by assumption)), (by first | trivial | rfl | exact Eq.symm (by assumption)), (by first | trivial | rfl | exact Eq.symm (by assumption)), (by first | trivial | rfl | exact Eq.symm (by assumption)), (by first | trivial | rfl | exact Eq.symm (by assumption)), (by first | trivial | rfl | exact Eq.symm (by assumption)), (by first | trivial | rfl | exact Eq.symm (by assumption)), (by first | trivial | rfl | exact Eq.symm (by assumption)), (by first | trivial | rfl | exact Eq.symm (by assumption)), (by first | trivial | rfl | exact Eq.symm (by assumption)), (by first | trivial | rfl | exact Eq.symm (by assumption))⟩, m2 - 1, by omega, k + 1, by omega, by simp, by rw [w1, hnx], (by first | trivial | rfl | exact Eq.symm (by assumption))⟩
      ·rw [decide_eq_false (fun hm => c3 (mem_chI.1 hm))]
       rw [if_pos ⟨⟨c1, c2⟩, c3⟩] at hnx
       simp -implicitDefEqProofs (disch := omega) only [Nat.reduceEqDiff, ↓reduceIte, vcu, ↓vcd, opK_some, Bool.not_false, g2, g3, g4, g10, g12, g13, g14, g15, g16, g17, h18, h19]
       exact ⟨⟨(by first | trivial | rfl | exact Eq.symm (by assumption)), (by first | trivial | rfl | exact Eq.symm (by assumption)), (by first | trivial | rfl | exact Eq.symm (by assumption)), (by first | trivial | rfl | exact Eq.symm (by assumption)), (by first | trivial | rfl | exact Eq.symm (by assumption)), (by first | trivial | rfl | exact Eq.symm (by assumption)), (by first | trivial | rfl | exact Eq.symm (by assumption)), (by first | trivial | rfl | exact Eq.symm (by assumption)), (by first | trivial | rfl | exact Eq.symm (by assumption)), (by first | trivial | rfl | exact Eq.symm (by assumption)), (by first | trivial | rfl | exact Eq.symm (by assumption))⟩, m2 - 1, by omega, k + 1, by omega, by simp, by rw [w1, hnx], (by first | trivial | rfl | exact Eq.symm (by assumption))⟩
     ·rw [if_neg fun hh => c2 hh.1.2] at hnx
      simp -implicitDefEqProofs (disch := omega) only [Nat.reduceEqDiff, ↓reduceIte, vcu, ↓vcd, g2, g3, g4, g10, g12, g13, g14, g15, g16, g17, h18, h19, x1, x2, x3, lE, Int.toNat_natCast, Nat.add_zero]
      exact ⟨⟨(by first | trivial | rfl | exact Eq.symm (by assumption)), (by first | trivial | rfl | exact Eq.symm (by assumption)), (by first | trivial | rfl | exact Eq.symm (by assumption)), (by first | trivial | rfl | exact Eq.symm (by assumption)), (by first | trivial | rfl | exact Eq.symm (by assumption)), (by first | trivial | rfl | exact Eq.symm (by assumption)), (by first | trivial | rfl | exact Eq.symm (by assumption)), (by first | trivial | rfl | exact Eq.symm (by assumption)), (by first | trivial | rfl | exact Eq.symm (by assumption)), (by first | trivial | rfl | exact Eq.symm (by assumption)), (by first | trivial | rfl | exact Eq.symm (by assumption))⟩, m2 - 1, by omega, k + 1, by omega, by simp, by rw [w1, hnx], (by first | trivial | rfl | exact Eq.symm (by assumption))⟩
    ·rw [if_neg fun hh => c1 hh.1.1] at hnx
     simp -implicitDefEqProofs (disch := omega) only [Nat.reduceEqDiff, ↓reduceIte, vcu, ↓vcd, g2, g3, g4, g10, g12, g13, g14, g15, g16, g17, h18, h19, x1, x2, x3, lE, Int.toNat_natCast, Nat.add_zero]
     exact ⟨⟨(by first | trivial | rfl | exact Eq.symm (by assumption)), (by first | trivial | rfl | exact Eq.symm (by assumption)), (by first | trivial | rfl | exact Eq.symm (by assumption)), (by first | trivial | rfl | exact Eq.symm (by assumption)), (by first | trivial | rfl | exact Eq.symm (by assumption)), (by first | trivial | rfl | exact Eq.symm (by assumption)), (by first | trivial | rfl | exact Eq.symm (by assumption)), (by first | trivial | rfl | exact Eq.symm (by assumption)), (by first | trivial | rfl | exact Eq.symm (by assumption)), (by first | trivial | rfl | exact Eq.symm (by assumption)), (by first | trivial | rfl | exact Eq.symm (by assumption))⟩, m2 - 1, by omega, k + 1, by omega, by simp, by rw [w1, hnx], (by first | trivial | rfl | exact Eq.symm (by assumption))⟩
  obtain rfl : k = cs.length := by omega
  cases hn : nxt s cs ch sd x (wantOf A B sd) cs.length with
  | none =>
   rw [hn] at h18
   have e18 : nI none = -1 := rfl
   rw [e18] at h18
   rw [go_none hn] at hgo
   subst hgo
   simp -implicitDefEqProofs (disch := omega) only [Nat.reduceEqDiff, ↓reduceIte, vcu, ↓vcd, g2, g3, g4, g10, g12, g13, g14, g15, g16, g17, h18, h19]
   have hne2 : gl ≠ gb := ne_of nl v9
   have hAB : ∀ k, k ∈ ch → 0 ≤ A + B - (gc cs k).v ∧ A + B - (gc cs k).v ≤ 10 ∧ 0 ≤ (gc cs k).v := fun k hk => by
    have := hch.ab k hk
    have := hwa.1
    have := hwb.1
    omega
   have hchl := all_le hinv
   refine vc_loop_c mixed (by kernel_rfl) [2, 3, 10, 12, 13, 14] (fun m a τ' => ∃ j : Nat, m + j = ch.length ∧ a 21 = .int .i64 j ∧ Kept gb τ12 τ' ∧ τ' gb = some ⟨tris (flip A B (ch.take j) cs), false⟩) ch.length ⟨0, by simp, rfl, Kept.refl _ _, by simpa [flip_nil] using wb⟩ ?_
   rintro m3 a3 τ13 hc3 ⟨j, hj, h21, hK, hgb⟩
   simp -implicitDefEqProofs (disch := omega) only [Nat.reduceEqDiff, ↓reduceIte, vcu, ↓vcd, g2, g3, g4, g10, g12, g13, g14] at hc3
   obtain ⟨q2, q3, q10, q12, q13, q14, -⟩ := hc3
   by_cases hjl : j < ch.length
   ·have hkm : ch.getD j 0 ∈ ch := by simp [List.getD, hjl]
    have hkl := hch.lt _ hkm
    have hab := hAB _ hkm
    have hnt : ch.getD j 0 ∉ ch.take j := fun hm => by
     obtain ⟨i, hi, e⟩ := List.getElem_of_mem hm
     simp at hi
     have e1 : ch.getD j 0 = ch[j] := by simp [List.getD, hjl]
     rw [e1, List.getElem_take] at e
     have := (List.getElem_inj hch.nd).1 e
     omega
    have hts : ch.take (j + 1) = ch.take j ++ [ch.getD j 0] := by
     rw [List.take_succ_eq_append_getElem hjl]; simp [List.getD, hjl]
    have lk := intsAt_own (hK.at vl hne2) j (by rw [chI_length]; exact hjl)
    rw [chI_getD hjl] at lk
    obtain ⟨fs1, fs2⟩ := flip_step (a := A) (b := B) hkl hnt
    have hgf : (flip A B (ch.take j) cs).getD (ch.getD j 0) cl0 = gc (flip A B (ch.take j) cs) (ch.getD j 0) := rfl
    have hfl := flip_length A B (ch.take j) cs
    obtain ⟨-, -, x3⟩ := trisAt_own hgb (ch.getD j 0) (by omega)
    rw [hgf, fs2] at x3
    rw [← hts] at fs1
    generalize hkk : ch.getD j 0 = kk at *
    simp -implicitDefEqProofs (disch := omega) only [Nat.reduceEqDiff, ↓reduceIte, vcu, ↓vcd, q2, q3, q10, q12, q13, q14, h21]
    refine region_tree mixed (quiets [0, 1, 2, 3, 4, 5, 6, 7, 8, 9, 10, 11, 12, 13, 14, 15, 16] (quiets [17, 18] (.one 19 .stop))) [([0, 1, 2, 3, 4, 5, 6, 7, 8, 9, 10, 11, 12, 13, 14, 15, 16], Sub τ13)] (by kernel_rfl) (by kernel_rfl) (fun p hp => by simp only [List.mem_singleton] at hp; subst hp; exact Sub.refl _) ?_
    refine tree_quiets τ13 _ _ _ sf1 (by kernel_rfl) (by kernel_rfl) ?_
    simp -implicitDefEqProofs (disch := omega) only [Nat.reduceEqDiff, ↓reduceIte, vcu, ↓vcd, pickOps_nil, pickOps_cons, pickO_some, List.getElem?_cons_succ, List.getElem?_cons_zero, q2, q3, q10, q12, q13, q14, h21, lk, x3, Int.toNat_natCast]
    refine tree_quiets (fun _ => none) _ _ _ (fun _ _ _ _ => fun x ob e => by cases e) (by kernel_rfl) (by kernel_rfl) ?_
    simp -implicitDefEqProofs (disch := omega) only [Nat.reduceEqDiff, ↓reduceIte, vcu, ↓vcd, pickOps_nil, pickOps_cons, pickO_some, List.getElem?_cons_succ, List.getElem?_cons_zero, q10, Int.toNat_natCast]
    refine tree_one rfl ?_
    refine r_set (g := gb) (i := kk * 3 + 2) (by simp -implicitDefEqProofs (disch := omega) only [Nat.reduceEqDiff, ↓reduceIte, vcu, ↓vcd, Nat.zero_add]) z9r co3 z9r hgb (by rw [tris_length]; omega) fun τ14 k14 e14 => ?_
    simp -implicitDefEqProofs (disch := omega) only [Nat.reduceEqDiff, ↓reduceIte, vcu, ↓vcd] at e14
    rw [(tris_set _ kk (by omega) _).2.2, hgf, fs2, fs1] at e14
    simp -implicitDefEqProofs (disch := omega) only [Nat.reduceEqDiff, ↓reduceIte, vcu, ↓vcd]
    refine ⟨keep_of rfl (fun p hp => by simp only [List.mem_singleton] at hp; subst hp; exact .inl (by kernel_rfl)), tree_stop ?_⟩
    simp -implicitDefEqProofs (disch := omega) only [Nat.reduceEqDiff, ↓reduceIte, vcu, ↓vcd, q2, q3, q10, q12, q13, q14, h21]
    exact ⟨⟨(by first | trivial | rfl | exact Eq.symm (by assumption)), (by first | trivial | rfl | exact Eq.symm (by assumption)), (by first | trivial | rfl | exact Eq.symm (by assumption)), (by first | trivial | rfl | exact Eq.symm (by assumption)), (by first | trivial | rfl | exact Eq.symm (by assumption)), (by first | trivial | rfl | exact Eq.symm (by assumption)), (by first | trivial | rfl | exact Eq.symm (by assumption))⟩, m3 - 1, by omega, j + 1, by omega, by simp, hK.trans k14, e14⟩
   obtain rfl : j = ch.length := by omega
   rw [List.take_length] at hgb
   have hfl := flip_length A B ch cs
   have hs13 : Sub τ τ13 := hK.sub (hs9.trans hs11) nτb
   simp -implicitDefEqProofs (disch := omega) only [Nat.reduceEqDiff, ↓reduceIte, vcu, ↓vcd, q2, q3, q10, q12, q13, q14, h21]
   rw [r_build]
   refine ⟨(_, #[.int .i64 I, .int .i64 O, .int .i64 A]), ⟨ze79, by simp -implicitDefEqProofs (disch := omega) only [Nat.reduceEqDiff, ↓reduceIte, vcu, ↓vcd, q2, q3, q12]; kernel_rfl⟩, ?_⟩
   simp -implicitDefEqProofs (disch := omega) only [Nat.reduceEqDiff, ↓reduceIte, vcu, ↓vcd]
   refine r_lit el44 (out := #[.int .i64 I, .int .i64 O, .int .i64 A]) (by first | kernel_rfl | (simp -implicitDefEqProofs (disch := omega) only [Nat.reduceEqDiff, ↓reduceIte, vcu, ↓vcd]; kernel_rfl)) (by rfl) fun eb τ6 n6 s6 v6 => ?_
   replace v6 : τ6 eb = some ⟨tris [⟨I, O, A⟩], false⟩ := v6
   refine r_pushC (g := gb) (e := eb) (o := 0) (cs := flip A B ch cs) (ds := [⟨I, O, A⟩]) (m := 1) (len := cs.length) el44 (by omega) sl44 (by simp -implicitDefEqProofs (disch := omega) only [Nat.reduceEqDiff, ↓reduceIte, vcu, ↓vcd, q10]) (s6 _ _ hgb) hfl z9q (trisAt_own v6) rfl (by omega) fun gc9 τ15 n9 k9 v15 => ?_
   have s15 : Sub τ τ15 := k9.sub (hs13.trans s6) nτb
   simp -implicitDefEqProofs (disch := omega) only [Nat.reduceEqDiff, ↓reduceIte, vcu, ↓vcd]
   refine fin_two Tryd.results57 ⟨.slice (some ⟨gc9, 0, none⟩) (cs.length + 1) 3, ?_, s1.trans s15, .inr ⟨gc9, by simp [hfl], v15, free_sub (s1.trans (hs13.trans s6)) n9⟩⟩
   simp -implicitDefEqProofs (disch := omega) only [Nat.reduceEqDiff, ↓reduceIte, vcu, ↓vcd]
  | some k =>
   rw [hn] at h18
   have e18 : nI (some k) = (k : Int) := rfl
   rw [e18] at h18
   simp -implicitDefEqProofs (disch := omega) only [Nat.reduceEqDiff, ↓reduceIte, vcu, ↓vcd, g2, g3, g4, g10, g12, g13, g14, g15, g16, g17, h18, h19]
   have hroom := hinv.room hn
   obtain ⟨m', rfl⟩ : ∃ m', m = m' + 1 := ⟨m - 1, by omega⟩
   rw [go_some hn] at hgo
   have hinv' := Inv.step hC hne hfr hinv hn
   obtain ⟨hkl, -, -⟩ := nxt_some hn
   have hwn := wantOf_not A B sd
   refine r_lit el54 (out := #[.int .i64 (k : Int)]) (by first | kernel_rfl | (simp -implicitDefEqProofs (disch := omega) only [Nat.reduceEqDiff, ↓reduceIte, vcu, ↓vcd, h18]; kernel_rfl)) (by rfl) fun e3 τ13 n13 s13 v13 => ?_
   refine r_pushI (g := gl) (e := e3) (o := 0) (k := .i64) (xs := chI ch) (ys := [(k : Int)]) (m := 1) (len := ch.length) el54 (by omega) sl54 (by simp -implicitDefEqProofs (disch := omega) only [Nat.reduceEqDiff, ↓reduceIte, vcu, ↓vcd, g14]) (s13 _ _ vl) (chI_length _) z9q (intsAt_own v13) rfl (by omega) fun g6 τ14 n14 k14 v14 => ?_
   rw [← chI_snoc] at v14
   have hs14 : Sub τ9 τ14 := k14.sub (hs11.trans s13) nl
   have n6 := free_sub (hs11.trans s13) n14
   have hl1 : ch.length + 1 = (ch ++ [k]).length := by simp
   obtain ⟨x1, x2, -⟩ := trisAt_own (hs14 _ _ v9) k hkl
   have hgk : cs.getD k cl0 = gc cs k := rfl
   rw [hgk] at x1 x2
   have hm := hR _ (gc_mem hkl)
   have lE14 := mE _ (hs9.trans hs14)
   generalize gc cs k = c at x1 x2 hm hinv' hgo
   obtain ⟨⟨a1, a2⟩, ⟨a3, a4⟩, -⟩ := hm
   have hA1 := hwa.1
   have hB1 := hwb.1
   cases sd with
   | true =>
    have e15 : (if (true : Bool) = true then (1 : Int) else 0) = 1 := rfl
    rw [e15] at g15
    have w1 : wantOf A B true = A := rfl
    rw [w1] at g17
    simp -implicitDefEqProofs (disch := omega) only [Nat.reduceEqDiff, ↓reduceIte, vcu, ↓vcd, g2, g3, g4, g10, g12, g13, g14, g15, g16, g17, h18, h19, x1, x2, lE14, Int.toNat_natCast, Nat.add_zero]
    exact ⟨⟨(by first | trivial | rfl | exact Eq.symm (by assumption)), (by first | trivial | rfl | exact Eq.symm (by assumption)), (by first | trivial | rfl | exact Eq.symm (by assumption)), (by first | trivial | rfl | exact Eq.symm (by assumption)), (by first | trivial | rfl | exact Eq.symm (by assumption)), (by first | trivial | rfl | exact Eq.symm (by assumption)), (by first | trivial | rfl | exact Eq.symm (by assumption))⟩, m', by omega, ch ++ [k], false, _, g6, by rw [hl1], v14, n6, rfl, rfl, by show Value.int .i64 (A + B - A) = .int .i64 B; congr 1; omega, hs14, hinv', by simp; omega, hgo⟩
   | false =>
    have e15 : (if (false : Bool) = true then (1 : Int) else 0) = 0 := rfl
    rw [e15] at g15
    have w1 : wantOf A B false = B := rfl
    rw [w1] at g17
    simp -implicitDefEqProofs (disch := omega) only [Nat.reduceEqDiff, ↓reduceIte, vcu, ↓vcd, g2, g3, g4, g10, g12, g13, g14, g15, g16, g17, h18, h19, x1, x2, lE14, Int.toNat_natCast, Nat.add_zero]
    exact ⟨⟨(by first | trivial | rfl | exact Eq.symm (by assumption)), (by first | trivial | rfl | exact Eq.symm (by assumption)), (by first | trivial | rfl | exact Eq.symm (by assumption)), (by first | trivial | rfl | exact Eq.symm (by assumption)), (by first | trivial | rfl | exact Eq.symm (by assumption)), (by first | trivial | rfl | exact Eq.symm (by assumption)), (by first | trivial | rfl | exact Eq.symm (by assumption))⟩, m', by omega, ch ++ [k], true, _, g6, by rw [hl1], v14, n6, rfl, rfl, by show Value.int .i64 (A + B - B) = .int .i64 A; congr 1; omega, hs14, hinv', by simp; omega, hgo⟩
end Go.Proofs.YtofdnmlpfagibaaDoor
namespace Go.Proofs.YtofdnmlpfagibaaDoor
open Go Go.Abs Go.RowKit Go.Clos
variable {w0 : World}
def dropOk (s : Sp) (cs : List Cl) (i : Int) : Bool := decide (CV s cs ∧ (dropL cs i).length < cs.length)
def drL (s : Sp) (cs : List Cl) (i : Int) : List Cl := if CV s cs then dropL cs i else []
theorem drL_no {s : Sp} {cs : List Cl} {i : Int} (h : ¬ CV s cs) : drL s cs i = [] ∧ dropOk s cs i = false := by
 unfold drL dropOk; rw [if_neg h, decide_eq_false fun hh => h hh.1]; exact ⟨rfl, rfl⟩
theorem drL_ok {s : Sp} {cs : List Cl} {i : Int} (h : CV s cs) : drL s cs i = dropL cs i ∧ dropOk s cs i = decide ((dropL cs i).length < cs.length) := by
 unfold drL dropOk; rw [if_pos h]; exact ⟨rfl, decide_eq_decide.2 ⟨fun hh => hh.2, fun hh => ⟨h, hh⟩⟩⟩
theorem dropL_le (cs : List Cl) (i : Int) : (dropL cs i).length ≤ cs.length := List.length_filter_le _ _
set_option maxRecDepth 8000 in
theorem specDrop_at (σ : AHeap) (s : Sp) (h o : Nat) (cs : List Cl) (I : Int) (hv : TrisAt σ h o cs) (hl : cs.length ≤ 1048576) :
  ACall Tryd.prog w0 58 [.agg #[.int .i64 s.O, .int .i64 s.E, .int .i64 s.M], .slice (some ⟨h, o, none⟩) cs.length 3, .int .i64 I] σ fun r σ' => ∃ v, r = .tuple #[v, .bool (dropOk s cs I)] ∧ Sub σ σ' ∧ OwnC σ σ' v (drL s cs I) := by
 refine acall_go mixed Tryd.func58 rfl good58 fun pr => ?_
 simp -implicitDefEqProofs (disch := omega) only [Nat.reduceEqDiff, ↓reduceIte, vcu, ↓vcd]
 refine r_boxed fun b τ nb s1 e1 => ?_
 replace e1 : τ b = some ⟨[.int .i64 s.O, .int .i64 s.E, .int .i64 s.M], false⟩ := e1
 have l3 : lds τ b 0 3 = some [.int .i64 s.O, .int .i64 s.E, .int .i64 s.M] := lds_three (ld_of e1 rfl) (ld_of e1 rfl) (ld_of e1 rfl)
 simp -implicitDefEqProofs (disch := omega) only [Nat.reduceEqDiff, ↓reduceIte, vcu, ↓vcd, l3, co42]
 refine (specCV_at τ s.O s.E s.M h o cs (hv.sub s1) hl).mono ?_
 rintro r _ ⟨rfl, rfl⟩
 rename_i τ
 by_cases hC : CV s cs
 case neg =>
  obtain ⟨q1, q2⟩ := drL_no (i := I) hC
  rw [decide_eq_false hC, q1, q2]
  simp -implicitDefEqProofs (disch := omega) only [Nat.reduceEqDiff, ↓reduceIte, vcu, ↓vcd, opK_some, Bool.not_false]
  refine r_lit el44 (out := #[]) (by kernel_rfl) (by kernel_rfl) fun ea τ3 n3 s3 v3 => ?_
  simp -implicitDefEqProofs (disch := omega) only [Nat.reduceEqDiff, ↓reduceIte, vcu, ↓vcd]
  refine fin_two Tryd.results58 ⟨.slice (some ⟨ea, 0, none⟩) 0 3, ?_, s1.trans s3, .inr ⟨ea, rfl, v3, free_sub s1 n3⟩⟩
  simp -implicitDefEqProofs (disch := omega) only [Nat.reduceEqDiff, ↓reduceIte, vcu, ↓vcd]
 rw [decide_eq_true hC]
 obtain ⟨q1, q2⟩ := drL_ok (i := I) hC
 rw [q1, q2]
 have hl12 := hC.len
 simp -implicitDefEqProofs (disch := omega) only [Nat.reduceEqDiff, ↓reduceIte, vcu, ↓vcd, opK_some, Bool.not_true]
 refine r_lit el44 (out := #[]) (by kernel_rfl) (by kernel_rfl) fun ea τ3 n3 s3 v3 => ?_
 simp -implicitDefEqProofs (disch := omega) only [Nat.reduceEqDiff, ↓reduceIte, vcu, ↓vcd]
 refine vc_loop_c mixed (by kernel_rfl) [1, 2] (fun m a τ' => ∃ (k g : Nat), m + k = cs.length ∧ a 9 = .int .i64 k ∧ a 8 = .slice (some ⟨g, 0, none⟩) (dropL (cs.take k) I).length 3 ∧ Sub τ τ' ∧ τ' g = some ⟨tris (dropL (cs.take k) I), false⟩ ∧ τ g = none) cs.length ⟨0, ea, by simp, rfl, rfl, s3, v3, n3⟩ ?_
 rintro m a τ2 hc ⟨k, g, hk, h9, h8, hs, hg, hn⟩
 simp -implicitDefEqProofs (disch := omega) only [Nat.reduceEqDiff, ↓reduceIte, vcu, ↓vcd] at hc
 obtain ⟨h1, h2, -⟩ := hc
 by_cases hlt : k < cs.length
 case neg =>
  obtain rfl : k = cs.length := by omega
  rw [List.take_length] at h8 hg
  simp -implicitDefEqProofs (disch := omega) only [Nat.reduceEqDiff, ↓reduceIte, vcu, ↓vcd, h1, h2, h8, h9]
  refine fin_two Tryd.results58 ⟨.slice (some ⟨g, 0, none⟩) (dropL cs I).length 3, ?_, s1.trans hs, .inr ⟨g, rfl, hg, free_sub s1 hn⟩⟩
  simp -implicitDefEqProofs (disch := omega) only [Nat.reduceEqDiff, ↓reduceIte, vcu, ↓vcd]
  simp
 have hall := ((hv.sub s1).sub hs).all hlt
 obtain ⟨x1, -, -⟩ := ((hv.sub s1).sub hs) k hlt
 have hgk : cs.getD k cl0 = gc cs k := rfl
 rw [hgk] at hall x1
 have ht := dropL_take cs I hlt
 have hle : (dropL (cs.take k) I).length ≤ k := by have := dropL_le (cs.take k) I; simp at this; omega
 generalize gc cs k = c at hall x1 ht
 obtain ⟨ci, co, cv⟩ := c
 dsimp only at hall x1 ht
 by_cases he : ci = I
 ·rw [if_pos he, List.append_nil] at ht
  simp -implicitDefEqProofs (disch := omega) only [Nat.reduceEqDiff, ↓reduceIte, vcu, ↓vcd, h1, h2, h8, h9, x1, Nat.add_zero]
  exact ⟨⟨trivial, trivial, trivial⟩, m - 1, by omega, k + 1, g, by omega, by simp, by rw [ht], hs, by rw [ht]; exact hg, hn⟩
 ·rw [if_neg he] at ht
  simp -implicitDefEqProofs (disch := omega) only [Nat.reduceEqDiff, ↓reduceIte, vcu, ↓vcd, h1, h2, h8, h9, x1, hall, co79, Nat.add_zero]
  refine r_lit el44 (out := #[.int .i64 ci, .int .i64 co, .int .i64 cv]) (by first | kernel_rfl | (simp -implicitDefEqProofs (disch := omega) only [Nat.reduceEqDiff, ↓reduceIte, vcu, ↓vcd]; kernel_rfl)) (by rfl) fun eb τ6 n6 s6 v6 => ?_
  replace v6 : τ6 eb = some ⟨tris [⟨ci, co, cv⟩], false⟩ := v6
  refine r_pushC (g := g) (e := eb) (o := 0) (cs := dropL (cs.take k) I) (ds := [⟨ci, co, cv⟩]) (m := 1) (len := (dropL (cs.take k) I).length) el44 (by omega) sl44 z9q (s6 _ _ hg) rfl z9q (trisAt_own v6) rfl (by omega) fun gc9 τ9 n9 k9 v9 => ?_
  rw [← ht] at v9
  have hle2 : (dropL (cs.take k) I).length + 1 = (dropL (cs.take (k + 1)) I).length := by rw [ht]; simp
  simp -implicitDefEqProofs (disch := omega) only [Nat.reduceEqDiff, ↓reduceIte, vcu, ↓vcd, h1, h2, h9, hle2]
  exact ⟨⟨trivial, trivial, trivial⟩, m - 1, by omega, k + 1, gc9, by omega, by simp, rfl, k9.sub (hs.trans s6) hn, v9, free_sub (hs.trans s6) n9⟩
end Go.Proofs.YtofdnmlpfagibaaDoor
namespace Go.Proofs.YtofdnmlpfagibaaDoor
open Go Go.Abs Go.RowKit Go.Dial Go.Clos
variable {w0 : World}
theorem specMove_calls (σ : AHeap) (s : Sp) (v : Value) (cs : List Cl) (I O : Int) (hv : Tris σ v cs) (hl : cs.length ≤ 1048576) :
  ACall Tryd.prog w0 57 [.agg #[.int .i64 s.O, .int .i64 s.E, .int .i64 s.M], v, .int .i64 I, .int .i64 O] σ fun r σ' => ∃ v, r = .tuple #[v, .bool (decide (mvOk s cs I O))] ∧ Sub σ σ' ∧ OwnC σ σ' v (mvL s cs I O) :=
 ACall.tris_arg (pre := [_]) (post := [_, _]) (by kernel_rfl) hv fun σ1 h o hs hg => (specMove_at σ1 s h o cs I O hg hl).mono fun _ _ ⟨v, e, q, O⟩ => ⟨v, e, hs.trans q, O.older hs⟩
theorem specDrop_calls (σ : AHeap) (s : Sp) (v : Value) (cs : List Cl) (I : Int) (hv : Tris σ v cs) (hl : cs.length ≤ 1048576) :
  ACall Tryd.prog w0 58 [.agg #[.int .i64 s.O, .int .i64 s.E, .int .i64 s.M], v, .int .i64 I] σ fun r σ' => ∃ v, r = .tuple #[v, .bool (dropOk s cs I)] ∧ Sub σ σ' ∧ OwnC σ σ' v (drL s cs I) :=
 ACall.tris_arg (pre := [_]) (post := [_]) (by kernel_rfl) hv fun σ1 h o hs hg => (specDrop_at σ1 s h o cs I hg hl).mono fun _ _ ⟨v, e, q, O⟩ => ⟨v, e, hs.trans q, O.older hs⟩
theorem ownC_cellV {β σ : AHeap} {v : Value} {xs : List Cl} (h : OwnC β σ v xs) : v.cells = #[v] ∧ Value.oneCell' v = true := tris_cellV h.tris
set_option maxRecDepth 8000 in
theorem exDo_calls (σ : AHeap) (v : Value) (e : Ex) (d : Dd) (hv : ExV σ v e) (hb : ExB e) (hN : d.t.length ≤ 1048576) :
  ACall Tryd.prog w0 41 [v, ddA d] σ fun r σ' => ∃ w, r = .tuple #[w, .bool (exDo e d).2] ∧ Sub σ σ' ∧ OwnX σ σ' w (exDo e d).1 := by
 have hv0 := hv
 obtain ⟨⟨O, E, M⟩, ps, cs⟩ := e
 obtain ⟨v1, v2, rfl, t1, t2⟩ := hv
 have hb0 := hb
 obtain ⟨b1, b2, b3⟩ := hb
 obtain ⟨K, L, N⟩ := d
 have hNl : N.length ≤ 1048576 := hN
 dsimp only at t1 t2 b1 b2 b3
 unfold exV ddA
 dsimp only
 refine acall_goc mixed Tryd.func41 rfl goodc41 fun pr => ?_
 simp -implicitDefEqProofs (disch := omega) only [Nat.reduceEqDiff, ↓reduceIte, vcu, ↓vcd]
 refine r_boxed fun b τ1 nb s1 eb => ?_
 replace eb : τ1 b = some ⟨[.int .i64 O, .int .i64 E, .int .i64 M, v1, v2], false⟩ := eb
 refine r_boxed fun dd τ2 nd s2 ed => ?_
 replace ed : τ2 dd = some ⟨[.int .i64 K, .int .i64 L, .string (tx N)], false⟩ := ed
 refine r_new ze46 fun h4 τ3 n4 s3 e4 => ?_
 replace e4 : τ3 h4 = some ⟨[.int .i64 0, .int .i64 0, .int .i64 0, .slice none 0 0, .slice none 0 0], false⟩ := e4
 replace eb := s3 _ _ (s2 _ _ eb)
 replace ed := s3 _ _ ed
 have S3 : Sub σ τ3 := s1.trans (s2.trans s3)
 have z4 : σ h4 = none := free_sub (s1.trans s2) n4
 replace t1 := t1.sub S3
 replace t2 := t2.sub S3
 have hX3 : ExV τ3 (exV v1 v2 ⟨⟨O, E, M⟩, ps, cs⟩) ⟨⟨O, E, M⟩, ps, cs⟩ := ⟨v1, v2, rfl, t1, t2⟩
 -- what is loaded of the two arguments, in any later heap
 have y5 : ∀ T, Sub τ3 T → lds T b 0 5 = some [.int .i64 O, .int .i64 E, .int .i64 M, v1, v2] := fun T h => by rw [lds_of (h _ _ eb) (by simp)]; rfl
 have y0 : ∀ T, Sub τ3 T → lds T b 0 3 = some [.int .i64 O, .int .i64 E, .int .i64 M] := fun T h => lds_three (ld_of (h _ _ eb) rfl) (ld_of (h _ _ eb) rfl) (ld_of (h _ _ eb) rfl)
 have y3 : ∀ T, Sub τ3 T → ld T b (0 + 3) = some v1 := fun T h => ld_of (h _ _ eb) rfl
 have y4 : ∀ T, Sub τ3 T → ld T b (0 + 4) = some v2 := fun T h => ld_of (h _ _ eb) rfl
 have u0 : ∀ T, Sub τ3 T → ld T dd 0 = some (.int .i64 K) := fun T h => ld_of (h _ _ ed) rfl
 have u1 : ∀ T, Sub τ3 T → ld T dd 1 = some (.int .i64 L) := fun T h => ld_of (h _ _ ed) rfl
 have u2 : ∀ T, Sub τ3 T → ld T dd 2 = some (.string (tx N)) := fun T h => ld_of (h _ _ ed) rfl
 have hval := exVal_calls (w0 := w0) τ3 _ _ hX3 hb0
 unfold exV at hval
 dsimp only at hval
 have x5 := y5 τ3 (Sub.refl _)
 simp -implicitDefEqProofs (disch := omega) only [Nat.reduceEqDiff, ↓reduceIte, vcu, ↓vcd, x5, co46]
 refine hval.mono ?_
 rintro _ _ ⟨rfl, rfl⟩
 rename_i τ3
 by_cases hok : ExOk ⟨⟨O, E, M⟩, ps, cs⟩
 case neg =>
  rw [decide_eq_false hok]
  have hx : exDo ⟨⟨O, E, M⟩, ps, cs⟩ ⟨K, L, N⟩ = (ex0, false) := if_neg hok
  simp -implicitDefEqProofs (disch := omega) only [Nat.reduceEqDiff, ↓reduceIte, vcu, ↓vcd, opK_some, Bool.not_false]
  rw [r_build]
  refine ⟨(_, #[.int .i64 0, .int .i64 0, .int .i64 0, .slice none 0 0, .slice none 0 0]), ⟨ze46, by first | kernel_rfl | (simp -implicitDefEqProofs (disch := omega) only [Nat.reduceEqDiff, ↓reduceIte, vcu, ↓vcd]; kernel_rfl)⟩, ?_⟩
  simp -implicitDefEqProofs (disch := omega) only [Nat.reduceEqDiff, ↓reduceIte, vcu, ↓vcd]
  refine r_sets (g := h4) (i := 0) (C := [.int .i64 0, .int .i64 0, .int .i64 0, .slice none 0 0, .slice none 0 0]) z9q z9co46 z9r z9z e4 z9l fun T9 k9 e9 => ?_
  replace e9 : T9 h4 = some ⟨[.int .i64 0, .int .i64 0, .int .i64 0, .slice none 0 0, .slice none 0 0], false⟩ := e9
  have l9 : lds T9 h4 0 5 = some [.int .i64 0, .int .i64 0, .int .i64 0, .slice none 0 0, .slice none 0 0] := by rw [lds_of e9 (by simp)]; rfl
  simp -implicitDefEqProofs (disch := omega) only [Nat.reduceEqDiff, ↓reduceIte, vcu, ↓vcd]
  refine fin_ct8 Tryd.results41 T9 (Sub.refl _) (v := exV (.slice none 0 0) (.slice none 0 0) ex0) (by simp -implicitDefEqProofs (disch := omega) only [Nat.reduceEqDiff, ↓reduceIte, vcu, ↓vcd, l9, co46]; rfl) ⟨exV (.slice none 0 0) (.slice none 0 0) ex0, ?_, k9.sub S3 z4, ?_⟩
  ·simp -implicitDefEqProofs (disch := omega) only [Nat.reduceEqDiff, ↓reduceIte, vcu, ↓vcd]
   rw [hx]
  ·rw [hx]
   exact ⟨_, _, rfl, .inl ⟨rfl, rfl⟩, .inl ⟨rfl, rfl⟩⟩
 rw [decide_eq_true hok]
 obtain ⟨hE, hP, hL, hC, hSep⟩ := id hok
 dsimp only at hE hP hL hC hSep
 have hc12 := hC.len
 simp -implicitDefEqProofs (disch := omega) only [Nat.reduceEqDiff, ↓reduceIte, vcu, ↓vcd, opK_some, Bool.not_true, x5, co46]
 refine (copyX_rows τ3 (exV v1 v2 ⟨⟨O, E, M⟩, ps, cs⟩) _ hX3 hb0).mono ?_
 rintro _ τ4 ⟨g1, g2, rfl, s4, w1, w2, m1, m2⟩
 dsimp only at w1 w2
 unfold exV
 dsimp only
 simp -implicitDefEqProofs (disch := omega) only [Nat.reduceEqDiff, ↓reduceIte, vcu, ↓vcd, opK_some]
 refine r_new ze46 fun h6 τ5 n6 s5 e6 => ?_
 replace e6 : τ5 h6 = some ⟨[.int .i64 0, .int .i64 0, .int .i64 0, .slice none 0 0, .slice none 0 0], false⟩ := e6
 have d61 : g1 ≠ h6 := ne_of' n6 w1
 have d62 : g2 ≠ h6 := ne_of' n6 w2
 have d64 : h4 ≠ h6 := ne_of' n6 (s4 _ _ e4)
 have d14 : g1 ≠ h4 := ne_of m1 e4
 have d24 : g2 ≠ h4 := ne_of m2 e4
 have z1 : σ g1 = none := free_sub S3 m1
 have z2 : σ g2 = none := free_sub S3 m2
 have z6 : τ3 h6 = none := free_sub s4 n6
 refine r_sets (g := h6) (i := 0) (C := [.int .i64 0, .int .i64 0, .int .i64 0, .slice none 0 0, .slice none 0 0]) z9q z9co46 z9r z9z e6 z9l fun τ6 k6 f6 => ?_
 replace f6 : τ6 h6 = some ⟨[.int .i64 O, .int .i64 E, .int .i64 M, .slice (some ⟨g1, 0, none⟩) ps.length 1, .slice (some ⟨g2, 0, none⟩) cs.length 3], false⟩ := f6
 have S6 : Sub τ3 τ6 := k6.sub (s4.trans s5) z6
 replace w1 := k6.at (s5 _ _ w1) d61
 replace w2 := k6.at (s5 _ _ w2) d62
 have f4 := k6.at (s5 _ _ (s4 _ _ e4)) d64
 have l6 : lds τ6 h6 0 5 = some [.int .i64 O, .int .i64 E, .int .i64 M, .slice (some ⟨g1, 0, none⟩) ps.length 1, .slice (some ⟨g2, 0, none⟩) cs.length 3] := by rw [lds_of f6 (by simp)]; rfl
 have hS6 := S3.trans S6
 have a0 := u0 τ6 S6
 have a1 := u1 τ6 S6
 have a2 := u2 τ6 S6
 have a3 := y3 τ6 S6
 have a4 := y4 τ6 S6
 have a5 := y5 τ6 S6
 have a00 := y0 τ6 S6
 have ln1 := lenT (t1.sub S6)
 have hX6 := hX3.sub S6
 have hno : ∀ o, doO ⟨⟨O, E, M⟩, ps, cs⟩ ⟨K, L, N⟩ = o → exDo ⟨⟨O, E, M⟩, ps, cs⟩ ⟨K, L, N⟩ = (match o with | some x => (x, true) | none => (⟨⟨O, E, M⟩, ps, cs⟩, false)) := fun o ho => by unfold exDo; rw [if_pos hok, ho] <;> cases o <;> rfl
 simp -implicitDefEqProofs (disch := omega) only [Nat.reduceEqDiff, ↓reduceIte, vcu, ↓vcd, a1, a3, ln1]
 refine (in_calls τ6 L 0 ((ps.length : Int) - 1)).mono ?_
 rintro _ _ ⟨rfl, rfl⟩
 rename_i τ6
 by_cases hin : 0 ≤ L ∧ L ≤ (ps.length : Int) - 1
 case neg =>
  rw [decide_eq_false hin]
  have hx := hno none (if_pos hin)
  dsimp only at hx
  simp -implicitDefEqProofs (disch := omega) only [Nat.reduceEqDiff, ↓reduceIte, vcu, ↓vcd, opK_some, Bool.not_false, l6, co46]
  try simp -implicitDefEqProofs (disch := omega) only [Nat.reduceEqDiff, ↓reduceIte, vcu, ↓vcd, l6, co46]
  refine r_sets (g := h4) (i := 0) (C := [.int .i64 0, .int .i64 0, .int .i64 0, .slice none 0 0, .slice none 0 0]) z9q z9co46 z9r z9z f4 z9l fun T9 k9 e9 => ?_
  replace e9 : T9 h4 = some ⟨[.int .i64 O, .int .i64 E, .int .i64 M, .slice (some ⟨g1, 0, none⟩) ps.length 1, .slice (some ⟨g2, 0, none⟩) cs.length 3], false⟩ := e9
  have l9 : lds T9 h4 0 5 = some [.int .i64 O, .int .i64 E, .int .i64 M, .slice (some ⟨g1, 0, none⟩) ps.length 1, .slice (some ⟨g2, 0, none⟩) cs.length 3] := by rw [lds_of e9 (by simp)]; rfl
  simp -implicitDefEqProofs (disch := omega) only [Nat.reduceEqDiff, ↓reduceIte, vcu, ↓vcd]
  refine fin_ct8 Tryd.results41 T9 (Sub.refl _) (v := exV (.slice (some ⟨g1, 0, none⟩) ps.length 1) (.slice (some ⟨g2, 0, none⟩) cs.length 3) ⟨⟨O, E, M⟩, ps, cs⟩) (by simp -implicitDefEqProofs (disch := omega) only [Nat.reduceEqDiff, ↓reduceIte, vcu, ↓vcd, l9, co46]; rfl) ⟨exV (.slice (some ⟨g1, 0, none⟩) ps.length 1) (.slice (some ⟨g2, 0, none⟩) cs.length 3) ⟨⟨O, E, M⟩, ps, cs⟩, ?_, k9.sub hS6 z4, ?_⟩
  ·simp -implicitDefEqProofs (disch := omega) only [Nat.reduceEqDiff, ↓reduceIte, vcu, ↓vcd]
   rw [hx]
  ·rw [hx]
   exact ⟨_, _, rfl, .inr ⟨g1, rfl, k9.at w1 d14, z1⟩, .inr ⟨g2, rfl, k9.at w2 d24, z2⟩⟩
 rw [decide_eq_true hin]
 have hdo : doO ⟨⟨O, E, M⟩, ps, cs⟩ ⟨K, L, N⟩ = _ := if_neg (fun h => h hin)
 dsimp only at hdo
 have hpeer := peerOf_calls (w0 := w0) τ6 _ _ L hX6 hb0
 unfold exV at hpeer
 dsimp only at hpeer
 rw [show peerV ⟨⟨O, E, M⟩, ps, cs⟩ L = peerS cs L from if_pos hok] at hpeer
 simp -implicitDefEqProofs (disch := omega) only [Nat.reduceEqDiff, ↓reduceIte, vcu, ↓vcd, opK_some, Bool.not_true, a1, a5, co46]
 refine hpeer.mono ?_
 rintro _ _ ⟨rfl, rfl⟩
 rename_i τ6
 by_cases hK0 : K = 0
 ·have dk : decide (K = 0) = true := decide_eq_true hK0
  rw [if_pos hK0] at hdo
  have hline := lineOf_calls (w0 := w0) τ6 _ _ N hX6 hb0
  unfold exV at hline
  dsimp only at hline
  rw [show lineV ⟨⟨O, E, M⟩, ps, cs⟩ N = lineS ps N from if_pos hok] at hline
  have hge := lineS_ge (ps := ps) (t := N)
  have hltp := lineS_lt (ps := ps) (t := N)
  simp -implicitDefEqProofs (disch := omega) only [Nat.reduceEqDiff, ↓reduceIte, vcu, ↓vcd, opK_some, a0, a2, a5, dk, co46]
  refine hline.mono ?_
  rintro _ _ ⟨rfl, rfl⟩
  rename_i τ6
  generalize hto : lineS ps N = to at *
  by_cases h1 : to < 0
  ·have hx := hno none (by rw [hdo, if_pos (.inl h1)])
   dsimp only at hx
   simp -implicitDefEqProofs (disch := omega) only [Nat.reduceEqDiff, ↓reduceIte, vcu, ↓vcd, opK_some, a1, a5, l6, co46]
   try simp -implicitDefEqProofs (disch := omega) only [Nat.reduceEqDiff, ↓reduceIte, vcu, ↓vcd, l6, co46]
   refine r_sets (g := h4) (i := 0) (C := [.int .i64 0, .int .i64 0, .int .i64 0, .slice none 0 0, .slice none 0 0]) z9q z9co46 z9r z9z f4 z9l fun T9 k9 e9 => ?_
   replace e9 : T9 h4 = some ⟨[.int .i64 O, .int .i64 E, .int .i64 M, .slice (some ⟨g1, 0, none⟩) ps.length 1, .slice (some ⟨g2, 0, none⟩) cs.length 3], false⟩ := e9
   have l9 : lds T9 h4 0 5 = some [.int .i64 O, .int .i64 E, .int .i64 M, .slice (some ⟨g1, 0, none⟩) ps.length 1, .slice (some ⟨g2, 0, none⟩) cs.length 3] := by rw [lds_of e9 (by simp)]; rfl
   simp -implicitDefEqProofs (disch := omega) only [Nat.reduceEqDiff, ↓reduceIte, vcu, ↓vcd]
   refine fin_ct8 Tryd.results41 T9 (Sub.refl _) (v := exV (.slice (some ⟨g1, 0, none⟩) ps.length 1) (.slice (some ⟨g2, 0, none⟩) cs.length 3) ⟨⟨O, E, M⟩, ps, cs⟩) (by simp -implicitDefEqProofs (disch := omega) only [Nat.reduceEqDiff, ↓reduceIte, vcu, ↓vcd, l9, co46]; rfl) ⟨exV (.slice (some ⟨g1, 0, none⟩) ps.length 1) (.slice (some ⟨g2, 0, none⟩) cs.length 3) ⟨⟨O, E, M⟩, ps, cs⟩, ?_, k9.sub hS6 z4, ?_⟩
   ·simp -implicitDefEqProofs (disch := omega) only [Nat.reduceEqDiff, ↓reduceIte, vcu, ↓vcd]
    rw [hx]
   ·rw [hx]
    exact ⟨_, _, rfl, .inr ⟨g1, rfl, k9.at w1 d14, z1⟩, .inr ⟨g2, rfl, k9.at w2 d24, z2⟩⟩
  by_cases h2 : to = L
  ·have dl : decide (to = L) = true := decide_eq_true h2
   have hx := hno none (by rw [hdo, if_pos (.inr (.inl h2))])
   dsimp only at hx
   simp -implicitDefEqProofs (disch := omega) only [Nat.reduceEqDiff, ↓reduceIte, vcu, ↓vcd, opK_some, a1, a5, l6, dl, co46]
   try simp -implicitDefEqProofs (disch := omega) only [Nat.reduceEqDiff, ↓reduceIte, vcu, ↓vcd, l6, co46]
   refine r_sets (g := h4) (i := 0) (C := [.int .i64 0, .int .i64 0, .int .i64 0, .slice none 0 0, .slice none 0 0]) z9q z9co46 z9r z9z f4 z9l fun T9 k9 e9 => ?_
   replace e9 : T9 h4 = some ⟨[.int .i64 O, .int .i64 E, .int .i64 M, .slice (some ⟨g1, 0, none⟩) ps.length 1, .slice (some ⟨g2, 0, none⟩) cs.length 3], false⟩ := e9
   have l9 : lds T9 h4 0 5 = some [.int .i64 O, .int .i64 E, .int .i64 M, .slice (some ⟨g1, 0, none⟩) ps.length 1, .slice (some ⟨g2, 0, none⟩) cs.length 3] := by rw [lds_of e9 (by simp)]; rfl
   simp -implicitDefEqProofs (disch := omega) only [Nat.reduceEqDiff, ↓reduceIte, vcu, ↓vcd]
   refine fin_ct8 Tryd.results41 T9 (Sub.refl _) (v := exV (.slice (some ⟨g1, 0, none⟩) ps.length 1) (.slice (some ⟨g2, 0, none⟩) cs.length 3) ⟨⟨O, E, M⟩, ps, cs⟩) (by simp -implicitDefEqProofs (disch := omega) only [Nat.reduceEqDiff, ↓reduceIte, vcu, ↓vcd, l9, co46]; rfl) ⟨exV (.slice (some ⟨g1, 0, none⟩) ps.length 1) (.slice (some ⟨g2, 0, none⟩) cs.length 3) ⟨⟨O, E, M⟩, ps, cs⟩, ?_, k9.sub hS6 z4, ?_⟩
   ·simp -implicitDefEqProofs (disch := omega) only [Nat.reduceEqDiff, ↓reduceIte, vcu, ↓vcd]
    rw [hx]
   ·rw [hx]
    exact ⟨_, _, rfl, .inr ⟨g1, rfl, k9.at w1 d14, z1⟩, .inr ⟨g2, rfl, k9.at w2 d24, z2⟩⟩
  have dl : decide (to = L) = false := decide_eq_false h2
  by_cases h3 : 0 ≤ peerS cs L
  ·have dp : decide (peerS cs L ≥ 0) = true := decide_eq_true h3
   have hx := hno none (by rw [hdo, if_pos (.inr (.inr (.inl h3)))])
   dsimp only at hx
   simp -implicitDefEqProofs (disch := omega) only [Nat.reduceEqDiff, ↓reduceIte, vcu, ↓vcd, opK_some, a1, a5, l6, dl, dp, co46]
   try simp -implicitDefEqProofs (disch := omega) only [Nat.reduceEqDiff, ↓reduceIte, vcu, ↓vcd, l6, co46]
   refine r_sets (g := h4) (i := 0) (C := [.int .i64 0, .int .i64 0, .int .i64 0, .slice none 0 0, .slice none 0 0]) z9q z9co46 z9r z9z f4 z9l fun T9 k9 e9 => ?_
   replace e9 : T9 h4 = some ⟨[.int .i64 O, .int .i64 E, .int .i64 M, .slice (some ⟨g1, 0, none⟩) ps.length 1, .slice (some ⟨g2, 0, none⟩) cs.length 3], false⟩ := e9
   have l9 : lds T9 h4 0 5 = some [.int .i64 O, .int .i64 E, .int .i64 M, .slice (some ⟨g1, 0, none⟩) ps.length 1, .slice (some ⟨g2, 0, none⟩) cs.length 3] := by rw [lds_of e9 (by simp)]; rfl
   simp -implicitDefEqProofs (disch := omega) only [Nat.reduceEqDiff, ↓reduceIte, vcu, ↓vcd]
   refine fin_ct8 Tryd.results41 T9 (Sub.refl _) (v := exV (.slice (some ⟨g1, 0, none⟩) ps.length 1) (.slice (some ⟨g2, 0, none⟩) cs.length 3) ⟨⟨O, E, M⟩, ps, cs⟩) (by simp -implicitDefEqProofs (disch := omega) only [Nat.reduceEqDiff, ↓reduceIte, vcu, ↓vcd, l9, co46]; rfl) ⟨exV (.slice (some ⟨g1, 0, none⟩) ps.length 1) (.slice (some ⟨g2, 0, none⟩) cs.length 3) ⟨⟨O, E, M⟩, ps, cs⟩, ?_, k9.sub hS6 z4, ?_⟩
   ·simp -implicitDefEqProofs (disch := omega) only [Nat.reduceEqDiff, ↓reduceIte, vcu, ↓vcd]
    rw [hx]
   ·rw [hx]
    exact ⟨_, _, rfl, .inr ⟨g1, rfl, k9.at w1 d14, z1⟩, .inr ⟨g2, rfl, k9.at w2 d24, z2⟩⟩
  have dp : decide (peerS cs L ≥ 0) = false := decide_eq_false h3
  have hpeer2 := peerOf_calls (w0 := w0) τ6 _ _ to hX6 hb0
  unfold exV at hpeer2
  dsimp only at hpeer2
  rw [show peerV ⟨⟨O, E, M⟩, ps, cs⟩ to = peerS cs to from if_pos hok] at hpeer2
  simp -implicitDefEqProofs (disch := omega) only [Nat.reduceEqDiff, ↓reduceIte, vcu, ↓vcd, opK_some, a1, a5, dl, dp, co46]
  refine hpeer2.mono ?_
  rintro _ _ ⟨rfl, rfl⟩
  rename_i τ6
  by_cases h4' : 0 ≤ peerS cs to
  ·have dq : decide (peerS cs to ≥ 0) = true := decide_eq_true h4'
   have hx := hno none (by rw [hdo, if_pos (.inr (.inr (.inr h4')))])
   dsimp only at hx
   simp -implicitDefEqProofs (disch := omega) only [Nat.reduceEqDiff, ↓reduceIte, vcu, ↓vcd, opK_some, l6, dq, co46]
   try simp -implicitDefEqProofs (disch := omega) only [Nat.reduceEqDiff, ↓reduceIte, vcu, ↓vcd, l6, co46]
   refine r_sets (g := h4) (i := 0) (C := [.int .i64 0, .int .i64 0, .int .i64 0, .slice none 0 0, .slice none 0 0]) z9q z9co46 z9r z9z f4 z9l fun T9 k9 e9 => ?_
   replace e9 : T9 h4 = some ⟨[.int .i64 O, .int .i64 E, .int .i64 M, .slice (some ⟨g1, 0, none⟩) ps.length 1, .slice (some ⟨g2, 0, none⟩) cs.length 3], false⟩ := e9
   have l9 : lds T9 h4 0 5 = some [.int .i64 O, .int .i64 E, .int .i64 M, .slice (some ⟨g1, 0, none⟩) ps.length 1, .slice (some ⟨g2, 0, none⟩) cs.length 3] := by rw [lds_of e9 (by simp)]; rfl
   simp -implicitDefEqProofs (disch := omega) only [Nat.reduceEqDiff, ↓reduceIte, vcu, ↓vcd]
   refine fin_ct8 Tryd.results41 T9 (Sub.refl _) (v := exV (.slice (some ⟨g1, 0, none⟩) ps.length 1) (.slice (some ⟨g2, 0, none⟩) cs.length 3) ⟨⟨O, E, M⟩, ps, cs⟩) (by simp -implicitDefEqProofs (disch := omega) only [Nat.reduceEqDiff, ↓reduceIte, vcu, ↓vcd, l9, co46]; rfl) ⟨exV (.slice (some ⟨g1, 0, none⟩) ps.length 1) (.slice (some ⟨g2, 0, none⟩) cs.length 3) ⟨⟨O, E, M⟩, ps, cs⟩, ?_, k9.sub hS6 z4, ?_⟩
   ·simp -implicitDefEqProofs (disch := omega) only [Nat.reduceEqDiff, ↓reduceIte, vcu, ↓vcd]
    rw [hx]
   ·rw [hx]
    exact ⟨_, _, rfl, .inr ⟨g1, rfl, k9.at w1 d14, z1⟩, .inr ⟨g2, rfl, k9.at w2 d24, z2⟩⟩
  have dq : decide (peerS cs to ≥ 0) = false := decide_eq_false h4'
  have hnp : ∀ x, ¬ 0 ≤ peerS cs x → ∀ y, ¬ Pr cs x y := fun x hx => by
   rcases peerS_spec cs x with hh | ⟨_, hh⟩
   ·exact absurd ((Pr.lines hC hh).2.1) hx
   ·exact hh
  have hL1 : L < (ps.length : Int) := by omega
  have hto0 : 0 ≤ to := by omega
  obtain ⟨hl1, hl2, -, -⟩ := free_move (e := ⟨⟨O, E, M⟩, ps, cs⟩) hok (i := L) (o := to) ⟨hin.1, hL1⟩ ⟨hto0, hltp⟩ (fun h => h2 h.symm) (hnp L h3) (hnp to h4')
  have hmv : mvOk ⟨O, E, M⟩ cs L to := ⟨⟨hC, hE⟩, hl1, hl2⟩
  have hmL : mvL ⟨O, E, M⟩ cs L to = moveL ⟨O, E, M⟩ cs L to := mvL_ok hmv
  have hx := hno (some ⟨⟨O, E, M⟩, ps, moveL ⟨O, E, M⟩ cs L to⟩) (by rw [hdo, if_neg (by rintro (h | h | h | h) <;> first | exact h1 h | exact h2 h | exact h3 h | exact h4' h)])
  dsimp only at hx
  have hmove := specMove_calls (w0 := w0) τ6 ⟨O, E, M⟩ v2 cs L to (t2.sub S6) b3
  rw [decide_eq_true hmv, hmL] at hmove
  dsimp only at hmove
  simp -implicitDefEqProofs (disch := omega) only [Nat.reduceEqDiff, ↓reduceIte, vcu, ↓vcd, opK_some, dq, a00, a4, a1, co42, Nat.add_zero]
  refine hmove.mono ?_
  rintro _ τ7 ⟨vx, rfl, s7, ox⟩
  have hcv := ownC_cellV ox
  have f6' := s7 _ _ f6
  have w1' := s7 _ _ w1
  have f4' := s7 _ _ f4
  have S7 := hS6.trans s7
  simp -implicitDefEqProofs (disch := omega) only [Nat.reduceEqDiff, ↓reduceIte, vcu, ↓vcd, opK_some, List.getElem?_toArray, List.getElem?_cons_zero, List.getElem?_cons_succ, Bool.not_true]
  refine r_set (g := h6) (i := 4) z9q (by simp -implicitDefEqProofs (disch := omega) only [Nat.reduceEqDiff, ↓reduceIte, vcu, ↓vcd]; exact hcv.1) co44 (by simp -implicitDefEqProofs (disch := omega) only [Nat.reduceEqDiff, ↓reduceIte, vcu, ↓vcd]; exact hcv.2) f6' (by simp) fun τ8 k8 e8 => ?_
  replace e8 : τ8 h6 = some ⟨[.int .i64 O, .int .i64 E, .int .i64 M, .slice (some ⟨g1, 0, none⟩) ps.length 1, vx], false⟩ := by rw [e8]; simp -implicitDefEqProofs (disch := omega) only [Nat.reduceEqDiff, ↓reduceIte, vcu, ↓vcd]; rfl
  have l8 : lds τ8 h6 0 5 = some [.int .i64 O, .int .i64 E, .int .i64 M, .slice (some ⟨g1, 0, none⟩) ps.length 1, vx] := by rw [lds_of e8 (by simp)]; rfl
  have w8 := k8.at w1' d61
  have f48 := k8.at f4' d64
  have o8 := ox.kept k8 f6
  have S8 := k8.sub S7 (free_sub S3 z6)
  simp -implicitDefEqProofs (disch := omega) only [Nat.reduceEqDiff, ↓reduceIte, vcu, ↓vcd, l8, co46]
  refine r_sets (g := h4) (i := 0) (C := [.int .i64 0, .int .i64 0, .int .i64 0, .slice none 0 0, .slice none 0 0]) z9q z9co46 (by simp -implicitDefEqProofs (disch := omega) only [Nat.reduceEqDiff, ↓reduceIte, vcu, ↓vcd]; exact (show ([.int .i64 O, .int .i64 E, .int .i64 M, .slice (some ⟨g1, 0, none⟩) ps.length 1, vx] : List Value).all Value.oneCell' = true from by simp only [List.all_cons, List.all_nil, hcv.2]; rfl)) z9z f48 z9l fun T9 k9 e9 => ?_
  replace e9 : T9 h4 = some ⟨[.int .i64 O, .int .i64 E, .int .i64 M, .slice (some ⟨g1, 0, none⟩) ps.length 1, vx], false⟩ := e9
  have l9 : lds T9 h4 0 5 = some [.int .i64 O, .int .i64 E, .int .i64 M, .slice (some ⟨g1, 0, none⟩) ps.length 1, vx] := by rw [lds_of e9 (by simp)]; rfl
  simp -implicitDefEqProofs (disch := omega) only [Nat.reduceEqDiff, ↓reduceIte, vcu, ↓vcd]
  refine fin_ct8 Tryd.results41 T9 (Sub.refl _) (v := exV (.slice (some ⟨g1, 0, none⟩) ps.length 1) vx ⟨⟨O, E, M⟩, ps, moveL ⟨O, E, M⟩ cs L to⟩) (by simp -implicitDefEqProofs (disch := omega) only [Nat.reduceEqDiff, ↓reduceIte, vcu, ↓vcd, l9, co46]; rfl) ⟨exV (.slice (some ⟨g1, 0, none⟩) ps.length 1) vx ⟨⟨O, E, M⟩, ps, moveL ⟨O, E, M⟩ cs L to⟩, ?_, k9.sub S8 z4, ?_⟩
  ·simp -implicitDefEqProofs (disch := omega) only [Nat.reduceEqDiff, ↓reduceIte, vcu, ↓vcd]
   rw [hx]
  ·rw [hx]
   exact ⟨_, _, rfl, .inr ⟨g1, rfl, k9.at w8 d14, z1⟩, (o8.kept k9 f4).older hS6⟩
 have dk0 : decide (K = 0) = false := decide_eq_false hK0
 rw [if_neg hK0] at hdo
 by_cases hK1 : K = 1
 ·have dk1 : decide (K = 1) = true := decide_eq_true hK1
  rw [if_pos hK1] at hdo
  by_cases h1 : peerS cs L < 0
  ·have hx := hno none (by rw [hdo, if_pos (.inl h1)])
   dsimp only at hx
   simp -implicitDefEqProofs (disch := omega) only [Nat.reduceEqDiff, ↓reduceIte, vcu, ↓vcd, opK_some, a0, dk0, dk1, l6, co46]
   try simp -implicitDefEqProofs (disch := omega) only [Nat.reduceEqDiff, ↓reduceIte, vcu, ↓vcd, l6, co46]
   refine r_sets (g := h4) (i := 0) (C := [.int .i64 0, .int .i64 0, .int .i64 0, .slice none 0 0, .slice none 0 0]) z9q z9co46 z9r z9z f4 z9l fun T9 k9 e9 => ?_
   replace e9 : T9 h4 = some ⟨[.int .i64 O, .int .i64 E, .int .i64 M, .slice (some ⟨g1, 0, none⟩) ps.length 1, .slice (some ⟨g2, 0, none⟩) cs.length 3], false⟩ := e9
   have l9 : lds T9 h4 0 5 = some [.int .i64 O, .int .i64 E, .int .i64 M, .slice (some ⟨g1, 0, none⟩) ps.length 1, .slice (some ⟨g2, 0, none⟩) cs.length 3] := by rw [lds_of e9 (by simp)]; rfl
   simp -implicitDefEqProofs (disch := omega) only [Nat.reduceEqDiff, ↓reduceIte, vcu, ↓vcd]
   refine fin_ct8 Tryd.results41 T9 (Sub.refl _) (v := exV (.slice (some ⟨g1, 0, none⟩) ps.length 1) (.slice (some ⟨g2, 0, none⟩) cs.length 3) ⟨⟨O, E, M⟩, ps, cs⟩) (by simp -implicitDefEqProofs (disch := omega) only [Nat.reduceEqDiff, ↓reduceIte, vcu, ↓vcd, l9, co46]; rfl) ⟨exV (.slice (some ⟨g1, 0, none⟩) ps.length 1) (.slice (some ⟨g2, 0, none⟩) cs.length 3) ⟨⟨O, E, M⟩, ps, cs⟩, ?_, k9.sub hS6 z4, ?_⟩
   ·simp -implicitDefEqProofs (disch := omega) only [Nat.reduceEqDiff, ↓reduceIte, vcu, ↓vcd]
    rw [hx]
   ·rw [hx]
    exact ⟨_, _, rfl, .inr ⟨g1, rfl, k9.at w1 d14, z1⟩, .inr ⟨g2, rfl, k9.at w2 d24, z2⟩⟩
  by_cases h2 : N = []
  case neg =>
   have dn : decide (N = []) = false := decide_eq_false h2
   have hx := hno none (by rw [hdo, if_pos (.inr h2)])
   dsimp only at hx
   simp -implicitDefEqProofs (disch := omega) only [Nat.reduceEqDiff, ↓reduceIte, vcu, ↓vcd, opK_some, a0, a2, dk0, dk1, tx_nil, abin_sneq, dn, Bool.not_false, l6, co46]
   try simp -implicitDefEqProofs (disch := omega) only [Nat.reduceEqDiff, ↓reduceIte, vcu, ↓vcd, l6, co46]
   refine r_sets (g := h4) (i := 0) (C := [.int .i64 0, .int .i64 0, .int .i64 0, .slice none 0 0, .slice none 0 0]) z9q z9co46 z9r z9z f4 z9l fun T9 k9 e9 => ?_
   replace e9 : T9 h4 = some ⟨[.int .i64 O, .int .i64 E, .int .i64 M, .slice (some ⟨g1, 0, none⟩) ps.length 1, .slice (some ⟨g2, 0, none⟩) cs.length 3], false⟩ := e9
   have l9 : lds T9 h4 0 5 = some [.int .i64 O, .int .i64 E, .int .i64 M, .slice (some ⟨g1, 0, none⟩) ps.length 1, .slice (some ⟨g2, 0, none⟩) cs.length 3] := by rw [lds_of e9 (by simp)]; rfl
   simp -implicitDefEqProofs (disch := omega) only [Nat.reduceEqDiff, ↓reduceIte, vcu, ↓vcd]
   refine fin_ct8 Tryd.results41 T9 (Sub.refl _) (v := exV (.slice (some ⟨g1, 0, none⟩) ps.length 1) (.slice (some ⟨g2, 0, none⟩) cs.length 3) ⟨⟨O, E, M⟩, ps, cs⟩) (by simp -implicitDefEqProofs (disch := omega) only [Nat.reduceEqDiff, ↓reduceIte, vcu, ↓vcd, l9, co46]; rfl) ⟨exV (.slice (some ⟨g1, 0, none⟩) ps.length 1) (.slice (some ⟨g2, 0, none⟩) cs.length 3) ⟨⟨O, E, M⟩, ps, cs⟩, ?_, k9.sub hS6 z4, ?_⟩
   ·simp -implicitDefEqProofs (disch := omega) only [Nat.reduceEqDiff, ↓reduceIte, vcu, ↓vcd]
    rw [hx]
   ·rw [hx]
    exact ⟨_, _, rfl, .inr ⟨g1, rfl, k9.at w1 d14, z1⟩, .inr ⟨g2, rfl, k9.at w2 d24, z2⟩⟩
  have dn : decide (N = []) = true := decide_eq_true h2
  rw [if_neg (by rintro (h | h) <;> first | exact h1 h | exact h h2)] at hdo
  have hdrop := specDrop_calls (w0 := w0) τ6 ⟨O, E, M⟩ v2 cs L (t2.sub S6) b3
  rw [(drL_ok hC).1, (drL_ok hC).2] at hdrop
  dsimp only at hdrop
  simp -implicitDefEqProofs (disch := omega) only [Nat.reduceEqDiff, ↓reduceIte, vcu, ↓vcd, opK_some, a0, a1, a2, a00, a4, dk0, dk1, tx_nil, abin_sneq, dn, Bool.not_true, co42, Nat.add_zero]
  refine hdrop.mono ?_
  rintro _ τ7 ⟨vx, rfl, s7, ox⟩
  have f6' := s7 _ _ f6
  have w1' := s7 _ _ w1
  have f4' := s7 _ _ f4
  have S7 := hS6.trans s7
  by_cases hlen : (dropL cs L).length < cs.length
  ·have dd' : decide ((dropL cs L).length < cs.length) = true := decide_eq_true hlen
   have hcv := ownC_cellV ox
   have hx := hno (some ⟨⟨O, E, M⟩, ps, dropL cs L⟩) (by rw [hdo, if_pos hlen])
   dsimp only at hx
   simp -implicitDefEqProofs (disch := omega) only [Nat.reduceEqDiff, ↓reduceIte, vcu, ↓vcd, opK_some, List.getElem?_toArray, List.getElem?_cons_zero, List.getElem?_cons_succ, dd', Bool.not_true]
   refine r_set (g := h6) (i := 4) z9q (by simp -implicitDefEqProofs (disch := omega) only [Nat.reduceEqDiff, ↓reduceIte, vcu, ↓vcd]; exact hcv.1) co44 (by simp -implicitDefEqProofs (disch := omega) only [Nat.reduceEqDiff, ↓reduceIte, vcu, ↓vcd]; exact hcv.2) f6' (by simp) fun τ8 k8 e8 => ?_
   replace e8 : τ8 h6 = some ⟨[.int .i64 O, .int .i64 E, .int .i64 M, .slice (some ⟨g1, 0, none⟩) ps.length 1, vx], false⟩ := by rw [e8]; simp -implicitDefEqProofs (disch := omega) only [Nat.reduceEqDiff, ↓reduceIte, vcu, ↓vcd]; rfl
   have l8 : lds τ8 h6 0 5 = some [.int .i64 O, .int .i64 E, .int .i64 M, .slice (some ⟨g1, 0, none⟩) ps.length 1, vx] := by rw [lds_of e8 (by simp)]; rfl
   have w8 := k8.at w1' d61
   have f48 := k8.at f4' d64
   have o8 := ox.kept k8 f6
   have S8 := k8.sub S7 (free_sub S3 z6)
   simp -implicitDefEqProofs (disch := omega) only [Nat.reduceEqDiff, ↓reduceIte, vcu, ↓vcd, l8, co46]
   refine r_sets (g := h4) (i := 0) (C := [.int .i64 0, .int .i64 0, .int .i64 0, .slice none 0 0, .slice none 0 0]) z9q z9co46 (by simp -implicitDefEqProofs (disch := omega) only [Nat.reduceEqDiff, ↓reduceIte, vcu, ↓vcd]; exact (show ([.int .i64 O, .int .i64 E, .int .i64 M, .slice (some ⟨g1, 0, none⟩) ps.length 1, vx] : List Value).all Value.oneCell' = true from by simp only [List.all_cons, List.all_nil, hcv.2]; rfl)) z9z f48 z9l fun T9 k9 e9 => ?_
   replace e9 : T9 h4 = some ⟨[.int .i64 O, .int .i64 E, .int .i64 M, .slice (some ⟨g1, 0, none⟩) ps.length 1, vx], false⟩ := e9
   have l9 : lds T9 h4 0 5 = some [.int .i64 O, .int .i64 E, .int .i64 M, .slice (some ⟨g1, 0, none⟩) ps.length 1, vx] := by rw [lds_of e9 (by simp)]; rfl
   simp -implicitDefEqProofs (disch := omega) only [Nat.reduceEqDiff, ↓reduceIte, vcu, ↓vcd]
   refine fin_ct8 Tryd.results41 T9 (Sub.refl _) (v := exV (.slice (some ⟨g1, 0, none⟩) ps.length 1) vx ⟨⟨O, E, M⟩, ps, dropL cs L⟩) (by simp -implicitDefEqProofs (disch := omega) only [Nat.reduceEqDiff, ↓reduceIte, vcu, ↓vcd, l9, co46]; rfl) ⟨exV (.slice (some ⟨g1, 0, none⟩) ps.length 1) vx ⟨⟨O, E, M⟩, ps, dropL cs L⟩, ?_, k9.sub S8 z4, ?_⟩
   ·simp -implicitDefEqProofs (disch := omega) only [Nat.reduceEqDiff, ↓reduceIte, vcu, ↓vcd]
    rw [hx]
   ·rw [hx]
    exact ⟨_, _, rfl, .inr ⟨g1, rfl, k9.at w8 d14, z1⟩, (o8.kept k9 f4).older hS6⟩
  have dd' : decide ((dropL cs L).length < cs.length) = false := decide_eq_false hlen
  have hx := hno (some ⟨⟨O, E, M⟩, ps, dropL cs (peerS cs L)⟩) (by rw [hdo, if_neg hlen])
  dsimp only at hx
  have hdrop2 := specDrop_calls (w0 := w0) τ7 ⟨O, E, M⟩ v2 cs (peerS cs L) ((t2.sub S6).sub s7) b3
  rw [(drL_ok hC).1, (drL_ok hC).2] at hdrop2
  dsimp only at hdrop2
  have c00 := y0 τ7 (S6.trans s7)
  have c4 := y4 τ7 (S6.trans s7)
  simp -implicitDefEqProofs (disch := omega) only [Nat.reduceEqDiff, ↓reduceIte, vcu, ↓vcd, opK_some, List.getElem?_toArray, List.getElem?_cons_zero, List.getElem?_cons_succ, dd', Bool.not_false, c00, c4, co42, Nat.add_zero]
  refine hdrop2.mono ?_
  rintro _ τ8' ⟨vx, rfl, s8', ox'⟩
  have hcv := ownC_cellV ox'
  have f6'' := s8' _ _ f6'
  have w1'' := s8' _ _ w1'
  have f4'' := s8' _ _ f4'
  have S8' := S7.trans s8'
  simp -implicitDefEqProofs (disch := omega) only [Nat.reduceEqDiff, ↓reduceIte, vcu, ↓vcd, opK_some, List.getElem?_toArray, List.getElem?_cons_zero, List.getElem?_cons_succ]
  refine r_set (g := h6) (i := 4) z9q (by simp -implicitDefEqProofs (disch := omega) only [Nat.reduceEqDiff, ↓reduceIte, vcu, ↓vcd]; exact hcv.1) co44 (by simp -implicitDefEqProofs (disch := omega) only [Nat.reduceEqDiff, ↓reduceIte, vcu, ↓vcd]; exact hcv.2) f6'' (by simp) fun τ8 k8 e8 => ?_
  replace e8 : τ8 h6 = some ⟨[.int .i64 O, .int .i64 E, .int .i64 M, .slice (some ⟨g1, 0, none⟩) ps.length 1, vx], false⟩ := by rw [e8]; simp -implicitDefEqProofs (disch := omega) only [Nat.reduceEqDiff, ↓reduceIte, vcu, ↓vcd]; rfl
  have l8 : lds τ8 h6 0 5 = some [.int .i64 O, .int .i64 E, .int .i64 M, .slice (some ⟨g1, 0, none⟩) ps.length 1, vx] := by rw [lds_of e8 (by simp)]; rfl
  have w8 := k8.at w1'' d61
  have f48 := k8.at f4'' d64
  have o8 := ox'.kept k8 f6'
  have S8 := k8.sub S8' (free_sub S3 z6)
  simp -implicitDefEqProofs (disch := omega) only [Nat.reduceEqDiff, ↓reduceIte, vcu, ↓vcd, l8, co46]
  refine r_sets (g := h4) (i := 0) (C := [.int .i64 0, .int .i64 0, .int .i64 0, .slice none 0 0, .slice none 0 0]) z9q z9co46 (by simp -implicitDefEqProofs (disch := omega) only [Nat.reduceEqDiff, ↓reduceIte, vcu, ↓vcd]; exact (show ([.int .i64 O, .int .i64 E, .int .i64 M, .slice (some ⟨g1, 0, none⟩) ps.length 1, vx] : List Value).all Value.oneCell' = true from by simp only [List.all_cons, List.all_nil, hcv.2]; rfl)) z9z f48 z9l fun T9 k9 e9 => ?_
  replace e9 : T9 h4 = some ⟨[.int .i64 O, .int .i64 E, .int .i64 M, .slice (some ⟨g1, 0, none⟩) ps.length 1, vx], false⟩ := e9
  have l9 : lds T9 h4 0 5 = some [.int .i64 O, .int .i64 E, .int .i64 M, .slice (some ⟨g1, 0, none⟩) ps.length 1, vx] := by rw [lds_of e9 (by simp)]; rfl
  simp -implicitDefEqProofs (disch := omega) only [Nat.reduceEqDiff, ↓reduceIte, vcu, ↓vcd]
  refine fin_ct8 Tryd.results41 T9 (Sub.refl _) (v := exV (.slice (some ⟨g1, 0, none⟩) ps.length 1) vx ⟨⟨O, E, M⟩, ps, dropL cs (peerS cs L)⟩) (by simp -implicitDefEqProofs (disch := omega) only [Nat.reduceEqDiff, ↓reduceIte, vcu, ↓vcd, l9, co46]; rfl) ⟨exV (.slice (some ⟨g1, 0, none⟩) ps.length 1) vx ⟨⟨O, E, M⟩, ps, dropL cs (peerS cs L)⟩, ?_, k9.sub S8 z4, ?_⟩
  ·simp -implicitDefEqProofs (disch := omega) only [Nat.reduceEqDiff, ↓reduceIte, vcu, ↓vcd]
   rw [hx]
  ·rw [hx]
   exact ⟨_, _, rfl, .inr ⟨g1, rfl, k9.at w8 d14, z1⟩, (o8.kept k9 f4').older S7⟩
 have dk1 : decide (K = 1) = false := decide_eq_false hK1
 rw [if_neg hK1] at hdo
 by_cases hK2 : K = 2
 case neg =>
  have dk2 : decide (K = 2) = false := decide_eq_false hK2
  have hx := hno none (by rw [hdo, if_neg hK2])
  dsimp only at hx
  simp -implicitDefEqProofs (disch := omega) only [Nat.reduceEqDiff, ↓reduceIte, vcu, ↓vcd, opK_some, a0, dk0, dk1, dk2, l6, co46]
  try simp -implicitDefEqProofs (disch := omega) only [Nat.reduceEqDiff, ↓reduceIte, vcu, ↓vcd, l6, co46]
  refine r_sets (g := h4) (i := 0) (C := [.int .i64 0, .int .i64 0, .int .i64 0, .slice none 0 0, .slice none 0 0]) z9q z9co46 z9r z9z f4 z9l fun T9 k9 e9 => ?_
  replace e9 : T9 h4 = some ⟨[.int .i64 O, .int .i64 E, .int .i64 M, .slice (some ⟨g1, 0, none⟩) ps.length 1, .slice (some ⟨g2, 0, none⟩) cs.length 3], false⟩ := e9
  have l9 : lds T9 h4 0 5 = some [.int .i64 O, .int .i64 E, .int .i64 M, .slice (some ⟨g1, 0, none⟩) ps.length 1, .slice (some ⟨g2, 0, none⟩) cs.length 3] := by rw [lds_of e9 (by simp)]; rfl
  simp -implicitDefEqProofs (disch := omega) only [Nat.reduceEqDiff, ↓reduceIte, vcu, ↓vcd]
  refine fin_ct8 Tryd.results41 T9 (Sub.refl _) (v := exV (.slice (some ⟨g1, 0, none⟩) ps.length 1) (.slice (some ⟨g2, 0, none⟩) cs.length 3) ⟨⟨O, E, M⟩, ps, cs⟩) (by simp -implicitDefEqProofs (disch := omega) only [Nat.reduceEqDiff, ↓reduceIte, vcu, ↓vcd, l9, co46]; rfl) ⟨exV (.slice (some ⟨g1, 0, none⟩) ps.length 1) (.slice (some ⟨g2, 0, none⟩) cs.length 3) ⟨⟨O, E, M⟩, ps, cs⟩, ?_, k9.sub hS6 z4, ?_⟩
  ·simp -implicitDefEqProofs (disch := omega) only [Nat.reduceEqDiff, ↓reduceIte, vcu, ↓vcd]
   rw [hx]
  ·rw [hx]
   exact ⟨_, _, rfl, .inr ⟨g1, rfl, k9.at w1 d14, z1⟩, .inr ⟨g2, rfl, k9.at w2 d24, z2⟩⟩
 have dk2 : decide (K = 2) = true := decide_eq_true hK2
 rw [if_pos hK2] at hdo
 have hLn : L.toNat < ps.length := by omega
 have c3 : ld τ6 h6 (0 + 3) = some (.slice (some ⟨g1, 0, none⟩) ps.length 1) := ld_of f6 rfl
 simp -implicitDefEqProofs (disch := omega) only [Nat.reduceEqDiff, ↓reduceIte, vcu, ↓vcd, opK_some, a0, a1, a2, dk0, dk1, dk2, c3]
 refine r_setX (g := g1) (i := 0 + L.toNat) (v := N) z9q z9q co9 w1 (by omega) fun τ7 k7 w7 => ?_
 rw [Nat.zero_add] at w7
 have hps : ps ≠ [] := by rintro rfl; simp at hLn
 have d12 : g2 ≠ g1 := by
  rintro rfl
  rw [w1] at w2
  cases ps with
  | nil => exact hps rfl
  | cons p ps => cases cs <;> simp [texts, tris, tri] at w2
 have S7' : Sub τ3 τ7 := k7.sub S6 m1
 have f67 := k7.at f6 d61.symm
 have f47 := k7.at f4 d14.symm
 have w27 := k7.at w2 d12
 have c5 := y5 τ7 S7'
 have c1 := u1 τ7 S7'
 have c2 := u2 τ7 S7'
 have c3 := y3 τ7 S7'
 have c63 : ld τ7 h6 (0 + 3) = some (.slice (some ⟨g1, 0, none⟩) ps.length 1) := ld_of f67 rfl
 obtain ⟨hg, ho, hv1, hrow⟩ := rowT (t1.sub S7') (by omega)
 have hx1 := hrow L.toNat hLn
 by_cases h1 : N = ps.getD L.toNat []
 ·have dn : decide (N = ps.getD L.toNat []) = true := decide_eq_true h1
  have hx := hno none (by rw [hdo, if_pos (.inl h1)])
  dsimp only at hx
  simp -implicitDefEqProofs (disch := omega) only [Nat.reduceEqDiff, ↓reduceIte, vcu, ↓vcd, c1, c2, c3, c5, hv1, hx1, abin_seql, dn, co46]
  rw [← hv1]
  refine (copyX_rows τ7 (exV v1 v2 ⟨⟨O, E, M⟩, ps, cs⟩) _ (hX3.sub S7') hb0).mono ?_
  rintro _ τ8 ⟨q1, q2, rfl, s8, r1, r2, p1, p2⟩
  dsimp only at r1 r2
  unfold exV
  dsimp only
  have f48 := s8 _ _ f47
  have dq1 : q1 ≠ h4 := ne_of p1 f47
  have dq2 : q2 ≠ h4 := ne_of p2 f47
  simp -implicitDefEqProofs (disch := omega) only [Nat.reduceEqDiff, ↓reduceIte, vcu, ↓vcd, opK_some]
  refine r_sets (g := h4) (i := 0) (C := [.int .i64 0, .int .i64 0, .int .i64 0, .slice none 0 0, .slice none 0 0]) z9q z9co46 z9r z9z f48 z9l fun T9 k9 e9 => ?_
  replace e9 : T9 h4 = some ⟨[.int .i64 O, .int .i64 E, .int .i64 M, .slice (some ⟨q1, 0, none⟩) ps.length 1, .slice (some ⟨q2, 0, none⟩) cs.length 3], false⟩ := e9
  have l9 : lds T9 h4 0 5 = some [.int .i64 O, .int .i64 E, .int .i64 M, .slice (some ⟨q1, 0, none⟩) ps.length 1, .slice (some ⟨q2, 0, none⟩) cs.length 3] := by rw [lds_of e9 (by simp)]; rfl
  simp -implicitDefEqProofs (disch := omega) only [Nat.reduceEqDiff, ↓reduceIte, vcu, ↓vcd]
  refine fin_ct8 Tryd.results41 T9 (Sub.refl _) (v := exV (.slice (some ⟨q1, 0, none⟩) ps.length 1) (.slice (some ⟨q2, 0, none⟩) cs.length 3) ⟨⟨O, E, M⟩, ps, cs⟩) (by simp -implicitDefEqProofs (disch := omega) only [Nat.reduceEqDiff, ↓reduceIte, vcu, ↓vcd, l9, co46]; rfl) ⟨exV (.slice (some ⟨q1, 0, none⟩) ps.length 1) (.slice (some ⟨q2, 0, none⟩) cs.length 3) ⟨⟨O, E, M⟩, ps, cs⟩, ?_, k9.sub ((S3.trans S7').trans s8) z4, ?_⟩
  ·simp -implicitDefEqProofs (disch := omega) only [Nat.reduceEqDiff, ↓reduceIte, vcu, ↓vcd]
   rw [hx]
  ·rw [hx]
   exact ⟨_, _, rfl, .inr ⟨q1, rfl, k9.at r1 dq1, free_sub (S3.trans S7') p1⟩, .inr ⟨q2, rfl, k9.at r2 dq2, free_sub (S3.trans S7') p2⟩⟩
 have dn : decide (N = ps.getD L.toNat []) = false := decide_eq_false h1
 have hpl := planValid_calls (w0 := w0) τ7 _ (ps.set L.toNat N) (own_textsI w7) (by rw [List.length_set]; exact b1) (fun x hx => by
  rcases List.mem_or_eq_of_mem_set hx with h | h
  ·exact b2 x h
  ·subst h; exact hNl)
 rw [List.length_set] at hpl
 by_cases h2 : PlanOk (ps.set L.toNat N)
 case neg =>
  rw [decide_eq_false h2] at hpl
  have hx := hno none (by rw [hdo, if_pos (.inr h2)])
  dsimp only at hx
  simp -implicitDefEqProofs (disch := omega) only [Nat.reduceEqDiff, ↓reduceIte, vcu, ↓vcd, c1, c2, c3, c63, hv1, hx1, abin_seql, dn]
  rw [r_callq]
  refine ⟨_, hpl, ?_⟩
  simp -implicitDefEqProofs (disch := omega) only [Nat.reduceEqDiff, ↓reduceIte, vcu, ↓vcd, Bool.not_false, c5, co46]
  refine (copyX_rows τ7 (exV v1 v2 ⟨⟨O, E, M⟩, ps, cs⟩) _ (hX3.sub S7') hb0).mono ?_
  rintro _ τ8 ⟨q1, q2, rfl, s8, r1, r2, p1, p2⟩
  dsimp only at r1 r2
  unfold exV
  dsimp only
  have f48 := s8 _ _ f47
  have dq1 : q1 ≠ h4 := ne_of p1 f47
  have dq2 : q2 ≠ h4 := ne_of p2 f47
  simp -implicitDefEqProofs (disch := omega) only [Nat.reduceEqDiff, ↓reduceIte, vcu, ↓vcd, opK_some]
  refine r_sets (g := h4) (i := 0) (C := [.int .i64 0, .int .i64 0, .int .i64 0, .slice none 0 0, .slice none 0 0]) z9q z9co46 z9r z9z f48 z9l fun T9 k9 e9 => ?_
  replace e9 : T9 h4 = some ⟨[.int .i64 O, .int .i64 E, .int .i64 M, .slice (some ⟨q1, 0, none⟩) ps.length 1, .slice (some ⟨q2, 0, none⟩) cs.length 3], false⟩ := e9
  have l9 : lds T9 h4 0 5 = some [.int .i64 O, .int .i64 E, .int .i64 M, .slice (some ⟨q1, 0, none⟩) ps.length 1, .slice (some ⟨q2, 0, none⟩) cs.length 3] := by rw [lds_of e9 (by simp)]; rfl
  simp -implicitDefEqProofs (disch := omega) only [Nat.reduceEqDiff, ↓reduceIte, vcu, ↓vcd]
  refine fin_ct8 Tryd.results41 T9 (Sub.refl _) (v := exV (.slice (some ⟨q1, 0, none⟩) ps.length 1) (.slice (some ⟨q2, 0, none⟩) cs.length 3) ⟨⟨O, E, M⟩, ps, cs⟩) (by simp -implicitDefEqProofs (disch := omega) only [Nat.reduceEqDiff, ↓reduceIte, vcu, ↓vcd, l9, co46]; rfl) ⟨exV (.slice (some ⟨q1, 0, none⟩) ps.length 1) (.slice (some ⟨q2, 0, none⟩) cs.length 3) ⟨⟨O, E, M⟩, ps, cs⟩, ?_, k9.sub ((S3.trans S7').trans s8) z4, ?_⟩
  ·simp -implicitDefEqProofs (disch := omega) only [Nat.reduceEqDiff, ↓reduceIte, vcu, ↓vcd]
   rw [hx]
  ·rw [hx]
   exact ⟨_, _, rfl, .inr ⟨q1, rfl, k9.at r1 dq1, free_sub (S3.trans S7') p1⟩, .inr ⟨q2, rfl, k9.at r2 dq2, free_sub (S3.trans S7') p2⟩⟩
 rw [decide_eq_true h2] at hpl
 have hx := hno (some ⟨⟨O, E, M⟩, ps.set L.toNat N, cs⟩) (by rw [hdo, if_neg (by rintro (h | h) <;> first | exact h1 h | exact h h2)])
 dsimp only at hx
 have l7 : lds τ7 h6 0 5 = some [.int .i64 O, .int .i64 E, .int .i64 M, .slice (some ⟨g1, 0, none⟩) ps.length 1, .slice (some ⟨g2, 0, none⟩) cs.length 3] := by rw [lds_of f67 (by simp)]; rfl
 simp -implicitDefEqProofs (disch := omega) only [Nat.reduceEqDiff, ↓reduceIte, vcu, ↓vcd, c1, c2, c3, c63, hv1, hx1, abin_seql, dn]
 rw [r_callq]
 refine ⟨_, hpl, ?_⟩
 simp -implicitDefEqProofs (disch := omega) only [Nat.reduceEqDiff, ↓reduceIte, vcu, ↓vcd, Bool.not_true, l7, co46]
 try simp -implicitDefEqProofs (disch := omega) only [Nat.reduceEqDiff, ↓reduceIte, vcu, ↓vcd, l7, co46]
 refine r_sets (g := h4) (i := 0) (C := [.int .i64 0, .int .i64 0, .int .i64 0, .slice none 0 0, .slice none 0 0]) z9q z9co46 z9r z9z f47 z9l fun T9 k9 e9 => ?_
 replace e9 : T9 h4 = some ⟨[.int .i64 O, .int .i64 E, .int .i64 M, .slice (some ⟨g1, 0, none⟩) ps.length 1, .slice (some ⟨g2, 0, none⟩) cs.length 3], false⟩ := e9
 have l9 : lds T9 h4 0 5 = some [.int .i64 O, .int .i64 E, .int .i64 M, .slice (some ⟨g1, 0, none⟩) ps.length 1, .slice (some ⟨g2, 0, none⟩) cs.length 3] := by rw [lds_of e9 (by simp)]; rfl
 simp -implicitDefEqProofs (disch := omega) only [Nat.reduceEqDiff, ↓reduceIte, vcu, ↓vcd]
 refine fin_ct8 Tryd.results41 T9 (Sub.refl _) (v := exV (.slice (some ⟨g1, 0, none⟩) ps.length 1) (.slice (some ⟨g2, 0, none⟩) cs.length 3) ⟨⟨O, E, M⟩, ps.set L.toNat N, cs⟩) (by simp -implicitDefEqProofs (disch := omega) only [Nat.reduceEqDiff, ↓reduceIte, vcu, ↓vcd, l9, co46]; rfl) ⟨exV (.slice (some ⟨g1, 0, none⟩) ps.length 1) (.slice (some ⟨g2, 0, none⟩) cs.length 3) ⟨⟨O, E, M⟩, ps.set L.toNat N, cs⟩, ?_, k9.sub (S3.trans S7') z4, ?_⟩
 ·simp -implicitDefEqProofs (disch := omega) only [Nat.reduceEqDiff, ↓reduceIte, vcu, ↓vcd]
  rw [hx]
 ·rw [hx]
  exact ⟨_, _, rfl, .inr ⟨g1, by rw [List.length_set], k9.at w7 d14, z1⟩, .inr ⟨g2, rfl, k9.at w27 d24, z2⟩⟩
end Go.Proofs.YtofdnmlpfagibaaDoor
namespace Go.Proofs.YtofdnmlpfagibaaDoor
open Go Go.Abs Go.RowKit Go.Dial Go.Clos
variable {w0 : World}
/-- an exchange's cells -/
def exC (v1 v2 : Value) (e : Ex) : List Value := [.int .i64 e.s.O, .int .i64 e.s.E, .int .i64 e.s.M, v1, v2]
theorem exC_one {β σ : AHeap} {v1 v2 : Value} {e : Ex} (h : OwnX β σ (exV v1 v2 e) e) : (exC v1 v2 e).all Value.oneCell' = true := by
 obtain ⟨u1, u2, e1, h1, h2⟩ := h
 unfold exV at e1
 cases e1
 have a := (texts_cellV h1.texts).2
 have b := (tris_cellV h2.tris).2
 unfold exC
 simp only [List.all_cons, List.all_nil, a, b]
 rfl
end Go.Proofs.YtofdnmlpfagibaaDoor
namespace Go.Proofs.YtofdnmlpfagibaaDoor
open Go Go.Abs Go.RowKit
variable {w0 : World}
def Valid (xs : List Int) : Prop := Perm xs ∧ xs.length ≤ 6
instance (xs : List Int) : Decidable (Valid xs) := by unfold Valid; infer_instance
/-- what has been seen, number by number -/
def seenB (xs : List Int) : List Value := (List.range 6).map fun (i : Nat) => .bool (decide ((i : Int) ∈ xs))
theorem seenB_length (xs : List Int) : (seenB xs).length = 6 := by simp [seenB]
theorem seenB_get (xs : List Int) {i : Nat} (h : i < 6) : (seenB xs)[i]? = some (.bool (decide ((i : Int) ∈ xs))) := by simp [seenB, h]
theorem seenB_set (xs : List Int) {x : Int} (h0 : 0 ≤ x) (h : x < 6) : (seenB xs).set x.toNat (.bool true) = seenB (xs ++ [x]) := by
 apply List.ext_getElem?
 intro i
 rw [List.getElem?_set]
 by_cases hi : i < 6
 ·rw [seenB_get _ hi, seenB_get _ hi, seenB_length]
  by_cases e : x.toNat = i
  ·have : (i : Int) = x := by omega
   rw [if_pos e, if_pos (by omega)]; simp [this]
  ·have : (i : Int) ≠ x := by omega
   rw [if_neg e]; simp [this]
 ·have : x.toNat ≠ i := by omega
  rw [if_neg this, List.getElem?_eq_none (by simp [seenB]; omega), List.getElem?_eq_none (by simp [seenB]; omega)]
set_option maxRecDepth 8000 in
theorem implValid_at (σ : AHeap) (h o : Nat) (xs : List Int) (hv : IntsAt .i64 σ h o xs) (hl : xs.length ≤ 1048576) :
  ACall Tryd.prog w0 28 [.slice (some ⟨h, o, none⟩) xs.length 1] σ fun r σ' => r = .bool (decide (Valid xs)) ∧ σ' = σ := by
 refine acall_go mixed Tryd.func28 rfl good28 fun pr => ?_
 by_cases h6 : 6 < xs.length
 ·simp -implicitDefEqProofs (disch := omega) only [Nat.reduceEqDiff, ↓reduceIte, vcu, ↓vcd]
  refine fin_one Tryd.results28 ⟨?_, rfl⟩
  simp -implicitDefEqProofs (disch := omega) only [Nat.reduceEqDiff, ↓reduceIte, vcu, ↓vcd]
  have : ¬ Valid xs := fun hV => by have := hV.2; omega
  simp [this]
 ·simp -implicitDefEqProofs (disch := omega) only [Nat.reduceEqDiff, ↓reduceIte, vcu, ↓vcd]
  refine r_alloc_at ze80 fun g hg => ?_
  simp -implicitDefEqProofs (disch := omega) only [Nat.reduceEqDiff, ↓reduceIte, vcu, ↓vcd]
  refine vc_loop mixed (by kernel_rfl) (fun m a σ' => ∃ k : Nat, m + k = xs.length ∧ a 0 = .slice (some ⟨h, o, none⟩) xs.length 1 ∧ a 3 = .pointer (some ⟨g, 0, none⟩) ∧ a 9 = .slice (some ⟨h, o, none⟩) xs.length 1 ∧ a 10 = .int .i64 xs.length ∧ a 11 = .int .i64 k ∧
   σ' = σ.upd g (some ⟨seenB (xs.take k), false⟩) ∧ ∀ j, j < k → (0 ≤ xs.getD j 0 ∧ xs.getD j 0 < xs.length) ∧ xs.getD j 0 ∉ xs.take j) xs.length ⟨0, by simp, rfl, rfl, rfl, rfl, rfl, rfl, by simp⟩ ?_
  rintro m a σ' ⟨k, hk, h0, h3, h9, h10, h11, rfl, hp⟩
  by_cases hlt : k < xs.length
  ·have hx := (hv.sub (sub_upd (o := some ⟨seenB (xs.take k), false⟩) hg)) k hlt
   have hxm : xs.getD k 0 ∈ xs := by simp [List.getD, hlt]
   generalize hxx : xs.getD k 0 = x at hx hxm
   by_cases hneg : x < 0
   ·simp -implicitDefEqProofs (disch := omega) only [Nat.reduceEqDiff, ↓reduceIte, vcu, ↓vcd, h0, h3, h9, h10, h11, hx]
    refine fin_drop Tryd.results28 σ (sub_upd hg) ⟨?_, rfl⟩
    simp -implicitDefEqProofs (disch := omega) only [Nat.reduceEqDiff, ↓reduceIte, vcu, ↓vcd]
    have : ¬ Valid xs := fun hV => by have := hV.1.1 _ hxm; omega
    simp [this]
   ·by_cases hbig : (xs.length : Int) ≤ x
    ·simp -implicitDefEqProofs (disch := omega) only [Nat.reduceEqDiff, ↓reduceIte, vcu, ↓vcd, h0, h3, h9, h10, h11, hx]
     refine fin_drop Tryd.results28 σ (sub_upd hg) ⟨?_, rfl⟩
     simp -implicitDefEqProofs (disch := omega) only [Nat.reduceEqDiff, ↓reduceIte, vcu, ↓vcd]
     have : ¬ Valid xs := fun hV => by have := hV.1.1 _ hxm; omega
     simp [this]
    ·have hs : ld (σ.upd g (some ⟨seenB (xs.take k), false⟩)) g (0 + x.toNat) = some (.bool (decide (x ∈ xs.take k))) := by
      rw [ld_upd_same]
      dsimp only
      rw [Nat.zero_add, seenB_get _ (by omega)]
      have : ((x.toNat : Nat) : Int) = x := by omega
      rw [this]
     by_cases hm : x ∈ xs.take k
     ·rw [decide_eq_true hm] at hs
      simp -implicitDefEqProofs (disch := omega) only [Nat.reduceEqDiff, ↓reduceIte, vcu, ↓vcd, h0, h3, h9, h10, h11, hx, hs]
      refine fin_drop Tryd.results28 σ (sub_upd hg) ⟨?_, rfl⟩
      simp -implicitDefEqProofs (disch := omega) only [Nat.reduceEqDiff, ↓reduceIte, vcu, ↓vcd]
      have : ¬ Valid xs := fun hV => (nodup_take.1 hV.1.2) k hlt (by rw [hxx]; exact hm)
      simp [this]
     ·rw [decide_eq_false hm] at hs
      simp -implicitDefEqProofs (disch := omega) only [Nat.reduceEqDiff, ↓reduceIte, vcu, ↓vcd, h0, h3, h9, h10, h11, hx, hs]
      have hst := sts_one (σ := σ.upd g (some ⟨seenB (xs.take k), false⟩)) (h := g) (cs := seenB (xs.take k)) (i := 0 + x.toNat) (v := .bool true) (AHeap.upd_same _ _ _) (by rw [seenB_length]; omega)
      refine r_store_at (h := g) (i := 0 + x.toNat) (by simp -implicitDefEqProofs (disch := omega) only [Nat.reduceEqDiff, ↓reduceIte, vcu, ↓vcd, h3]) (by rfl) (by rfl) hst ?_
      have htk : xs.take k ++ [x] = xs.take (k + 1) := by
       rw [List.take_succ_eq_append_getElem hlt]
       simp [List.getD, hlt] at hxx
       rw [hxx]
      rw [Nat.zero_add, seenB_set _ (by omega) (by omega), AHeap.upd_upd, htk]
      simp -implicitDefEqProofs (disch := omega) only [Nat.reduceEqDiff, ↓reduceIte, vcu, ↓vcd, h0, h3, h9, h10, h11]
      refine ⟨m - 1, by omega, k + 1, by omega, trivial, trivial, trivial, trivial, by simp, rfl, fun j hj => ?_⟩
      by_cases e : j = k
      ·subst e; rw [hxx]; exact ⟨by omega, hm⟩
      ·exact hp j (by omega)
  ·simp -implicitDefEqProofs (disch := omega) only [Nat.reduceEqDiff, ↓reduceIte, vcu, ↓vcd, h0, h3, h9, h10, h11]
   refine fin_drop Tryd.results28 σ (sub_upd hg) ⟨?_, rfl⟩
   simp -implicitDefEqProofs (disch := omega) only [Nat.reduceEqDiff, ↓reduceIte, vcu, ↓vcd]
   have : Valid xs := by
    refine ⟨⟨fun x hx => ?_, nodup_take.2 fun j hj => (hp j (by omega)).2⟩, by omega⟩
    obtain ⟨i, hi, rfl⟩ := List.getElem_of_mem hx
    have := (hp i (by omega)).1
    simpa [List.getD, hi] using this
   simp [this]
def xorN (a b : Int) : Nat := a.toNat ^^^ b.toNat
theorem conv_byte {b : Int} (h : 0 ≤ b ∧ b ≤ 255) : aconv Tryd.prog 5 3 (.int .u8 b) = some (.int .i64 b) := by
 simp only [aconv, Tryd.underlying5, Tryd.underlying3]
 rw [wrap_i64_ok (by omega)]
theorem xor_ok {a b : Int} {t : TypeId} (ha : 0 ≤ a ∧ a < 4611686018427387904) (hb : 0 ≤ b ∧ b < 4611686018427387904) :
  abin Tryd.prog t .xor (.int .i64 a) (.int .i64 b) = some (.int .i64 (xorN a b : Int)) ∧ xorN a b < 4611686018427387904 := by
 unfold xorN
 have hlt : a.toNat ^^^ b.toNat < 2 ^ 62 := Nat.xor_lt_two_pow (by omega) (by omega)
 refine ⟨?_, hlt⟩
 simp only [abin, if_true]
 have e1 : (BitVec.ofInt IntKind.i64.bits a ^^^ BitVec.ofInt IntKind.i64.bits b).toNat = a.toNat ^^^ b.toNat := by
  rw [BitVec.toNat_xor, BitVec.toNat_ofInt, BitVec.toNat_ofInt]
  have h1 : (a % ((2 ^ IntKind.i64.bits : Nat) : Int)).toNat = a.toNat := by rw [Int.emod_eq_of_lt ha.1 (by simp [IntKind.bits]; omega)]
  have h2 : (b % ((2 ^ IntKind.i64.bits : Nat) : Int)).toNat = b.toNat := by rw [Int.emod_eq_of_lt hb.1 (by simp [IntKind.bits]; omega)]
  rw [h1, h2]
 rw [e1, wrap_i64_ok (by omega)]
theorem abin_xor' {a b : Int} {t : TypeId} (h : (0 ≤ a ∧ a < 4611686018427387904) ∧ 0 ≤ b ∧ b < 4611686018427387904) : abin Tryd.prog t .xor (.int .i64 a) (.int .i64 b) = some (.int .i64 (xorN a b : Int)) := (xor_ok h.1 h.2).1
set_option maxRecDepth 8000 in
theorem open_at (σ : AHeap) (h o : Nat) (bs : List Int) (hl : bs.length ≤ 1048576) :
  ACall Tryd.prog w0 18 [.slice (some ⟨h, o, none⟩) bs.length 1] σ fun r σ' => ∃ (g m : Nat), σ g = none ∧ m ≤ 2000 ∧ m ≤ bs.length ∧ r = .pointer (some ⟨g, 0, none⟩) ∧ σ' = σ.upd g (some ⟨[.slice (some ⟨h, o, none⟩) m 1, .int .i64 0], false⟩) := by
 refine acall_go mixed Tryd.func18 rfl good18 fun pr => ?_
 by_cases hb : 2000 < bs.length
 ·simp -implicitDefEqProofs (disch := omega) only [Nat.reduceEqDiff, ↓reduceIte, vcu, ↓vcd]
  rw [r_build]
  refine ⟨(_, #[.slice (some ⟨h, o, none⟩) 2000 1, .int .i64 0]), ⟨ze70, by simp -implicitDefEqProofs (disch := omega) only [Nat.reduceEqDiff, ↓reduceIte, vcu, ↓vcd]; kernel_rfl⟩, ?_⟩
  simp -implicitDefEqProofs (disch := omega) only [Nat.reduceEqDiff, ↓reduceIte, vcu, ↓vcd]
  rw [r_box]
  intro g hg
  rw [vcRH_eq]
  simp -implicitDefEqProofs (disch := omega) only [Nat.reduceEqDiff, ↓reduceIte, vcu, ↓vcd]
  refine fin_one Tryd.results18 ⟨g, 2000, hg, by omega, by omega, ?_, ?_⟩
  ·simp -implicitDefEqProofs (disch := omega) only [Nat.reduceEqDiff, ↓reduceIte, vcu, ↓vcd]
  ·rfl
 ·simp -implicitDefEqProofs (disch := omega) only [Nat.reduceEqDiff, ↓reduceIte, vcu, ↓vcd]
  rw [r_build]
  refine ⟨(_, #[.slice (some ⟨h, o, none⟩) bs.length 1, .int .i64 0]), ⟨ze70, by simp -implicitDefEqProofs (disch := omega) only [Nat.reduceEqDiff, ↓reduceIte, vcu, ↓vcd]; kernel_rfl⟩, ?_⟩
  simp -implicitDefEqProofs (disch := omega) only [Nat.reduceEqDiff, ↓reduceIte, vcu, ↓vcd]
  rw [r_box]
  intro g hg
  rw [vcRH_eq]
  simp -implicitDefEqProofs (disch := omega) only [Nat.reduceEqDiff, ↓reduceIte, vcu, ↓vcd]
  refine fin_one Tryd.results18 ⟨g, bs.length, hg, by omega, by omega, ?_, ?_⟩
  ·simp -implicitDefEqProofs (disch := omega) only [Nat.reduceEqDiff, ↓reduceIte, vcu, ↓vcd]
  ·rfl
/-- a reader: what is left of the code, and how often it was asked -/
structure Rd (β σ : AHeap) (g h o : Nat) (bs : List Int) (p : Int) : Prop where
 at_ : σ g = some ⟨[.slice (some ⟨h, o, none⟩) bs.length 1, .int .i64 p], false⟩
 sub : Sub β σ
 free : β g = none
 ints : IntsAt .u8 β h o bs
 len : bs.length ≤ 2000
 byte : ∀ b ∈ bs, 0 ≤ b ∧ b ≤ 255
set_option maxRecDepth 8000 in
theorem pick_at (β σ : AHeap) (g h o : Nat) (bs : List Int) (p n : Int) (hr : Rd β σ g h o bs p) (hp : 0 ≤ p ∧ p ≤ 1000000) (hn : 1 ≤ n ∧ n ≤ 1000000) :
  ACall Tryd.prog w0 22 [.pointer (some ⟨g, 0, none⟩), .int .i64 n] σ fun r σ' => ∃ z : Int, r = .int .i64 z ∧ 0 ≤ z ∧ z < n ∧ Rd β σ' g h o bs (p + 1) ∧ Kept g σ σ' := by
 refine acall_go mixed Tryd.func22 rfl good22 fun pr => ?_
 have hl0 : ld σ g (0 + 0) = some (.slice (some ⟨h, o, none⟩) bs.length 1) := by unfold ld; rw [hr.at_]; rfl
 have hl1 : ld σ g (0 + 1) = some (.int .i64 p) := by unfold ld; rw [hr.at_]; rfl
 simp -implicitDefEqProofs (disch := omega) only [Nat.reduceEqDiff, ↓reduceIte, vcu, ↓vcd, hl0, hl1]
 refine r_store_at (h := g) (i := 0 + 1) z9q z9r z9r (by simp -implicitDefEqProofs (disch := omega) only [Nat.reduceEqDiff, ↓reduceIte, vcu, ↓vcd]; exact sts_one hr.at_ (by simp)) ?_
 generalize hσ : σ.upd g (some ⟨List.set [.slice (some ⟨h, o, none⟩) bs.length 1, .int .i64 p] (0 + 1) (.int .i64 (p + 1)), false⟩) = τ
 have hm0 : ld τ g (0 + 0) = some (.slice (some ⟨h, o, none⟩) bs.length 1) := by rw [← hσ, ld_upd_same]; rfl
 have hm1 : ld τ g (0 + 1) = some (.int .i64 (p + 1)) := by rw [← hσ, ld_upd_same]; rfl
 have hst : Sub β τ := by rw [← hσ]; exact sub_put hr.sub hr.free
 have hbs : IntsAt .u8 τ h o bs := hr.ints.sub hst
 have hR : Rd β τ g h o bs (p + 1) := ⟨by rw [← hσ]; exact AHeap.upd_same _ _ _, hst, hr.free, hr.ints, hr.len, hr.byte⟩
 have hK : Kept g σ τ := by rw [← hσ]; exact Kept.put _ _ _
 by_cases h0 : bs.length = 0
 ·simp -implicitDefEqProofs (disch := omega) only [Nat.reduceEqDiff, ↓reduceIte, vcu, ↓vcd, hm0, hm1]
  refine fin_one Tryd.results22 ⟨0, ?_, by omega, by omega, hR, hK⟩
  simp -implicitDefEqProofs (disch := omega) only [Nat.reduceEqDiff, ↓reduceIte, vcu, ↓vcd]
 ·have byte : ∀ i : Nat, i < bs.length → ∃ b : Int, ld τ h (o + i) = some (.int .u8 b) ∧ 0 ≤ b ∧ b ≤ 255 := fun i hi => ⟨_, hbs i hi, hr.byte _ (by simp [List.getD, hi])⟩
  have hlen := hr.len
  by_cases hpl : p < bs.length
  ·obtain ⟨b, hb, hb0⟩ := byte p.toNat (by omega)
   have hcv := conv_byte hb0
   simp -implicitDefEqProofs (disch := omega) only [Nat.reduceEqDiff, ↓reduceIte, vcu, ↓vcd, hm0, hm1, Int.add_sub_cancel, hb, hcv]
   refine fin_one Tryd.results22 ⟨b % n, ?_, Int.emod_nonneg _ (by omega), Int.emod_lt_of_pos _ (by omega), hR, hK⟩
   simp -implicitDefEqProofs (disch := omega) only [Nat.reduceEqDiff, ↓reduceIte, vcu, ↓vcd]
  ·have h1 : 0 ≤ p % (bs.length : Int) ∧ p % (bs.length : Int) < bs.length := ⟨Int.emod_nonneg _ (by omega), Int.emod_lt_of_pos _ (by omega)⟩
   have h2 : 0 ≤ (p * 7 + 3) % (bs.length : Int) ∧ (p * 7 + 3) % (bs.length : Int) < bs.length := ⟨Int.emod_nonneg _ (by omega), Int.emod_lt_of_pos _ (by omega)⟩
   have h3 : 0 ≤ p / (bs.length : Int) ∧ p / (bs.length : Int) ≤ p := ⟨Int.ediv_nonneg (by omega) (by omega), Int.ediv_le_self _ (by omega)⟩
   obtain ⟨b1, hb1, hc1⟩ := byte (p % (bs.length : Int)).toNat (by omega)
   obtain ⟨b2, hb2, hc2⟩ := byte ((p * 7 + 3) % (bs.length : Int)).toNat (by omega)
   have hcv1 := conv_byte hc1
   have hcv2 := conv_byte hc2
   simp -implicitDefEqProofs (disch := omega) only [Nat.reduceEqDiff, ↓reduceIte, vcu, ↓vcd, hm0, hm1, Int.add_sub_cancel, hb1, hb2, hcv1, hcv2, abin_xor']
   refine fin_one Tryd.results22 ?_
   simp -implicitDefEqProofs (disch := omega) only [Nat.reduceEqDiff, ↓reduceIte, vcu, ↓vcd]
   exact ⟨_, rfl, Int.emod_nonneg _ (by omega), Int.emod_lt_of_pos _ (by omega), hR, hK⟩
set_option maxRecDepth 8000 in
theorem odd_at (β σ : AHeap) (g h o : Nat) (bs : List Int) (p n : Int) (hr : Rd β σ g h o bs p) (hp : 0 ≤ p ∧ p ≤ 1000000) (hn : 1 ≤ n ∧ n ≤ 1000000) :
  ACall Tryd.prog w0 21 [.pointer (some ⟨g, 0, none⟩), .int .i64 n] σ fun r σ' => ∃ b : Bool, r = .bool b ∧ Rd β σ' g h o bs (p + 1) ∧ Kept g σ σ' := by
 refine acall_go mixed Tryd.func21 rfl good21 fun pr => ?_
 simp -implicitDefEqProofs (disch := omega) only [Nat.reduceEqDiff, ↓reduceIte, vcu, ↓vcd]
 refine (pick_at β σ g h o bs p n hr hp hn).mono ?_
 rintro r σ' ⟨z, rfl, hz0, hz1, hR, hK⟩
 simp -implicitDefEqProofs (disch := omega) only [Nat.reduceEqDiff, ↓reduceIte, vcu, ↓vcd, opK_some]
 refine fin_one Tryd.results21 ⟨decide (z = n - 1), ?_, hR, hK⟩
 simp -implicitDefEqProofs (disch := omega) only [Nat.reduceEqDiff, ↓reduceIte, vcu, ↓vcd]
set_option maxRecDepth 8000 in
theorem alive_at (σ : AHeap) : ACall Tryd.prog w0 9 [] σ fun r σ' => r = .bool true ∧ σ' = σ := by
 refine acall_go mixed Tryd.func9 rfl good9 fun pr => ?_
 simp -implicitDefEqProofs (disch := omega) only [Nat.reduceEqDiff, ↓reduceIte, vcu, ↓vcd]
 refine r_lit_at Tryd.underlying54 ze3 (out := (ints .i64 [1, 0]).toArray) (by kernel_rfl) (by kernel_rfl) fun e1 he1 => ?_
 simp -implicitDefEqProofs (disch := omega) only [Nat.reduceEqDiff, ↓reduceIte, vcu, ↓vcd, co3]
 refine (implValid_at _ e1 0 [1, 0] (intsAt_own (AHeap.upd_same _ _ _)) (by simp)).mono ?_
 rintro r σ1 ⟨rfl, rfl⟩
 have d1 : decide (Valid [1, 0]) = true := by decide
 rw [d1]
 simp -implicitDefEqProofs (disch := omega) only [Nat.reduceEqDiff, ↓reduceIte, vcu, ↓vcd, opK_some]
 refine r_lit_at Tryd.underlying54 ze3 (out := (ints .i64 [1, 1]).toArray) (by kernel_rfl) (by kernel_rfl) fun e2 he2 => ?_
 simp -implicitDefEqProofs (disch := omega) only [Nat.reduceEqDiff, ↓reduceIte, vcu, ↓vcd, co3]
 refine (implValid_at _ e2 0 [1, 1] (intsAt_own (AHeap.upd_same _ _ _)) (by simp)).mono ?_
 rintro r σ1 ⟨rfl, rfl⟩
 have d2 : decide (Valid [1, 1]) = false := by decide
 rw [d2]
 simp -implicitDefEqProofs (disch := omega) only [Nat.reduceEqDiff, ↓reduceIte, vcu, ↓vcd, opK_some]
 refine fin_drop Tryd.results9 σ (sub_put (sub_upd he1) (free_sub (sub_upd he1) he2)) ⟨?_, rfl⟩
 simp -implicitDefEqProofs (disch := omega) only [Nat.reduceEqDiff, ↓reduceIte, vcu, ↓vcd]
theorem bytes_of {bs : List Int} (hw : ∀ z ∈ bs, (Lit.int .u8 z).wf = true) : ∀ b ∈ bs, 0 ≤ b ∧ b ≤ 255 := fun b hb => by
 have := hw b hb; simpa [Lit.wf, IntKind.min, IntKind.max, IntKind.signed, IntKind.bits] using this
set_option maxRecDepth 8000 in
theorem odd0_at (σ : AHeap) (v : Value) : ACall Tryd.prog w0 21 [v, .int .i64 0] σ fun r σ' => r = .bool false ∧ σ' = σ := by
 refine acall_go mixed Tryd.func21 rfl good21 fun pr => ?_
 simp -implicitDefEqProofs (disch := omega) only [Nat.reduceEqDiff, ↓reduceIte, vcu, ↓vcd]
 refine fin_one Tryd.results21 ⟨?_, rfl⟩
 simp -implicitDefEqProofs (disch := omega) only [Nat.reduceEqDiff, ↓reduceIte, vcu, ↓vcd]
theorem Rd.sub' {β σ τ : AHeap} {g h o : Nat} {bs : List Int} {p : Int} (hr : Rd β σ g h o bs p) (hs : Sub σ τ) : Rd β τ g h o bs p :=
 ⟨hs _ _ hr.at_, hr.sub.trans hs, hr.free, hr.ints, hr.len, hr.byte⟩
theorem Rd.put {β σ τ : AHeap} {g g2 h o : Nat} {bs : List Int} {p : Int} (hr : Rd β σ g h o bs p) (hk : Kept g2 σ τ) (hne : g2 ≠ g) (hn : β g2 = none) : Rd β τ g h o bs p :=
 ⟨hk.at hr.at_ hne.symm, hk.sub hr.sub hn, hr.free, hr.ints, hr.len, hr.byte⟩
/-- a reader that was just opened -/
theorem opened (σ : AHeap) (h o : Nat) (bs : List Int) (hv : IntsAt .u8 σ h o bs) (hl : bs.length ≤ 1048576) (hb : ∀ b ∈ bs, 0 ≤ b ∧ b ≤ 255) :
  ACall Tryd.prog w0 18 [.slice (some ⟨h, o, none⟩) bs.length 1] σ fun r τ => ∃ (g m : Nat), r = .pointer (some ⟨g, 0, none⟩) ∧ Sub σ τ ∧ Rd σ τ g h o (bs.take m) 0 :=
 (open_at σ h o bs hl).mono fun r τ ⟨g, m, hg, hm, hmb, hr, hτ⟩ => by
  have htl : (bs.take m).length = m := by simp; omega
  have hs0 : Sub σ τ := by rw [hτ]; exact sub_upd hg
  exact ⟨g, m, hr, hs0, ⟨by rw [hτ, htl]; exact AHeap.upd_same _ _ _, hs0, hg, hv.take m, by rw [htl]; exact hm, fun b hb' => hb b (List.mem_of_mem_take hb')⟩⟩
end Go.Proofs.YtofdnmlpfagibaaDoor
namespace Go.Proofs.YtofdnmlpfagibaaDoor
open Go Go.Abs Go.RowKit
variable {w0 : World}
theorem acodeB_monoY {P : Program} {b : Base} {n : NR} {c : Code} {a : AFrame} {σ : AHeap} {Q Q' : AQ} (h : ACodeB P b n c a σ Q') (hq : ∀ e a σ, Q' e a σ → Q e a σ) : ACodeB P b n c a σ Q := ACode.mono h hq
/-- all but the reader -/
theorem less_keptY {g : Nat} {σ τ : AHeap} (h : Kept g σ τ) : Sub (σ.upd g none) τ := fun k ob e => by
 by_cases hk : k = g
 ·subst hk; rw [AHeap.upd_same] at e; cases e
 ·rw [AHeap.upd_ne _ _ hk] at e; exact h k ob hk e
/-- a drawing: the reader, and what was there -/
structure DS (β σ0 σ : AHeap) (g h o : Nat) (bs : List Int) (p : Int) : Prop where
 rd : Rd β σ g h o bs p
 kp : Kept g σ0 σ
 s0 : Sub β σ0
section
variable {β σ0 σ τ : AHeap} {g h o c : Nat} {bs : List Int} {p p' : Int}
theorem DS.start (hr : Rd β σ g h o bs p) : DS β σ σ g h o bs p := ⟨hr, Kept.refl _ _, hr.sub⟩
theorem DS.new (d : DS β σ0 σ g h o bs p) (hs : Sub σ τ) : DS β σ0 τ g h o bs p := ⟨d.rd.sub' hs, d.kp.trans hs.kept, d.s0⟩
theorem DS.put (d : DS β σ0 σ g h o bs p) (hk : Kept c σ τ) (hc : c ≠ g) (hn : σ0 c = none) : DS β σ0 τ g h o bs p := ⟨d.rd.put hk hc (free_sub d.s0 hn), d.kp.step hk (.inl hn), d.s0⟩
theorem DS.step (d : DS β σ0 σ g h o bs p) (hR : Rd β τ g h o bs p') (hK : Kept g σ τ) : DS β σ0 τ g h o bs p' := ⟨hR, d.kp.trans hK, d.s0⟩
theorem DS.fresh (d : DS β σ0 σ g h o bs p) (hn : σ c = none) : σ0 c = none ∧ c ≠ g := by
 have hc : c ≠ g := ne_of hn d.rd.at_
 refine ⟨?_, hc⟩
 cases e : σ0 c with
 | none => rfl
 | some ob => rw [d.kp c ob hc e] at hn; cases hn
theorem DS.on (d : DS β σ0 σ g h o bs p) (d2 : DS β σ τ g h o bs p') : DS β σ0 τ g h o bs p' := ⟨d2.rd, d.kp.trans d2.kp, d.s0⟩
end
end Go.Proofs.YtofdnmlpfagibaaDoor
namespace Go.Proofs.YtofdnmlpfagibaaDoor
open Go Go.Abs Go.RowKit
variable {w0 : World}
theorem lit_text {τ : AHeap} {q : Nat} {ts : List (List UInt8)} {z : Int} (h : τ q = some ⟨texts ts, false⟩) (h0 : 0 ≤ z) (h1 : z < ts.length) : ld τ q (0 + z.toNat) = some (.string (tx (ts.getD z.toNat []))) := textsAt_own h z.toNat (by omega)
theorem lit_int {τ : AHeap} {q : Nat} {xs : List Int} {z : Int} (h : τ q = some ⟨ints .i64 xs, false⟩) (h0 : 0 ≤ z) (h1 : z < xs.length) : ld τ q (0 + z.toNat) = some (.int .i64 (xs.getD z.toNat 0)) := own_at h (i := z.toNat) (by omega)
theorem getD_len {ts : List (List UInt8)} {M : Nat} (h : ∀ t ∈ ts, t.length ≤ M) (i : Nat) : (ts.getD i []).length ≤ M := by
 by_cases hi : i < ts.length
 ·have := h _ (List.getElem_mem hi); simpa [List.getD, hi] using this
 ·simp [List.getD, List.getElem?_eq_none (Nat.le_of_not_lt hi)]
theorem odd_any (β σ : AHeap) (g h o : Nat) (bs : List Int) (p n : Int) (hr : Rd β σ g h o bs p) (hp : 0 ≤ p ∧ p ≤ 1000000) (hn : n = 0 ∨ 1 ≤ n ∧ n ≤ 1000000) :
  ACall Tryd.prog w0 21 [.pointer (some ⟨g, 0, none⟩), .int .i64 n] σ fun r σ' => ∃ (b : Bool) (p' : Int), r = .bool b ∧ p ≤ p' ∧ p' ≤ p + 1 ∧ Rd β σ' g h o bs p' ∧ Kept g σ σ' := by
 rcases hn with rfl | hn
 ·refine (odd0_at σ _).mono ?_
  rintro r _ ⟨rfl, rfl⟩
  exact ⟨false, p, rfl, by omega, by omega, hr, Kept.refl _ _⟩
 ·refine (odd_at β σ g h o bs p n hr hp hn).mono ?_
  rintro r σ' ⟨b, rfl, hR, hK⟩
  exact ⟨b, p + 1, rfl, by omega, by omega, hR, hK⟩
set_option maxRecDepth 8000 in
theorem digits_draw (β σ : AHeap) (g h o : Nat) (bs : List Int) (p : Int) (most : Nat) (hr : Rd β σ g h o bs p) (hp : 0 ≤ p ∧ p ≤ 10000) (hm : most ≤ 100) :
  ACall Tryd.prog w0 37 [.pointer (some ⟨g, 0, none⟩), .int .i64 most] σ fun r σ' => ∃ (xs : List UInt8) (p' : Int), r = .string (tx xs) ∧ xs.length ≤ most ∧ p ≤ p' ∧ p' ≤ p + 1 + most ∧ DS β σ σ' g h o bs p' := by
 refine acall_go mixed Tryd.func37 rfl good37 fun pr => ?_
 simp -implicitDefEqProofs (disch := omega) only [Nat.reduceEqDiff, ↓reduceIte, vcu, ↓vcd]
 refine (pick_at β σ g h o bs p (most + 1) hr (by omega) (by omega)).mono ?_
 rintro r τ1 ⟨z, rfl, a1, a2, hR, hK⟩
 have d1 := (DS.start hr).step hR hK
 clear hR hK
 obtain ⟨z0, rfl⟩ : ∃ z0 : Nat, z = z0 := ⟨z.toNat, by omega⟩
 simp -implicitDefEqProofs (disch := omega) only [Nat.reduceEqDiff, ↓reduceIte, vcu, ↓vcd, opK_some]
 refine vc_loop_c mixed (by kernel_rfl) [0] (fun m a σ' => ∃ (xs : List UInt8) (p' : Int), a 6 = .int .i64 m ∧ a 5 = .string (tx xs) ∧ xs.length + m ≤ most ∧ p + 1 ≤ p' ∧ p' + m ≤ p + 1 + most ∧ DS β σ σ' g h o bs p') z0 ⟨[], p + 1, rfl, rfl, by simp; omega, by omega, by omega, d1⟩ ?_
 clear d1 a1 a2
 rintro m a τ hc ⟨xs, p', h6, h5, hl, hp1, hp2, d⟩
 simp -implicitDefEqProofs (disch := omega) only [Nat.reduceEqDiff, ↓reduceIte, vcu, ↓vcd] at hc
 obtain ⟨h0, -⟩ := hc
 by_cases hlt : 0 < m
 ·simp -implicitDefEqProofs (disch := omega) only [Nat.reduceEqDiff, ↓reduceIte, vcu, ↓vcd, h0, h5, h6]
  refine r_lit el43 (out := #[.string (tx [48]), .string (tx [49]), .string (tx [50]), .string (tx [51])]) (by simp -implicitDefEqProofs (disch := omega) only [Nat.reduceEqDiff, ↓reduceIte, vcu, ↓vcd]; kernel_rfl) (by kernel_rfl) fun q τ2 nq sq eq => ?_
  replace eq : τ2 q = some ⟨texts [[48], [49], [50], [51]], false⟩ := eq
  have d2 := d.new sq
  have gq := (d.fresh nq).2
  clear sq nq d
  simp -implicitDefEqProofs (disch := omega) only [Nat.reduceEqDiff, ↓reduceIte, vcu, ↓vcd, h0]
  refine (pick_at β τ2 g h o bs p' 4 d2.rd (by omega) (by omega)).mono ?_
  rintro r τ3 ⟨w, rfl, b1, b2, hR, hK⟩
  have d3 := d2.step hR hK
  replace eq := hK.at eq gq
  clear hR hK d2
  have hx := lit_text eq b1 (by simpa using b2)
  have hc1 : ([[48], [49], [50], [51]].getD w.toNat [] : List UInt8).length ≤ 1 := getD_len (by decide) _
  generalize ([[48], [49], [50], [51]].getD w.toNat [] : List UInt8) = c at hx hc1
  have ha := abin_sadd (P := Tryd.prog) (t := 9) (xs := xs) (ys := c) (by omega)
  simp -implicitDefEqProofs (disch := omega) only [Nat.reduceEqDiff, ↓reduceIte, vcu, ↓vcd, opK_some, h0, h5, h6, hx, ha]
  exact ⟨by simp [h0], m - 1, by omega, xs ++ c, p' + 1, by congr 1; omega, by simp, by simp; omega, by omega, by omega, d3⟩
 ·simp -implicitDefEqProofs (disch := omega) only [Nat.reduceEqDiff, ↓reduceIte, vcu, ↓vcd, h0, h5, h6]
  refine fin_one Tryd.results37 ⟨xs, p', ?_, by omega, by omega, by omega, d⟩
  simp -implicitDefEqProofs (disch := omega) only [Nat.reduceEqDiff, ↓reduceIte, vcu, ↓vcd, h5]
/-- a row of one's own that is drawn: newer than σ0, and not the reader -/
def OYI (σ0 : AHeap) (g : Nat) (τ : AHeap) (v : Value) (xs : List Int) : Prop := ∃ q, v = .slice (some ⟨q, 0, none⟩) xs.length 1 ∧ τ q = some ⟨ints .i64 xs, false⟩ ∧ σ0 q = none ∧ q ≠ g
theorem OYI.ints {σ0 τ : AHeap} {g : Nat} {v : Value} {xs : List Int} (w : OYI σ0 g τ v xs) : Ints .i64 τ v xs := let ⟨q, e, h, _⟩ := w; .inr ⟨q, 0, e, intsAt_own h⟩
end Go.Proofs.YtofdnmlpfagibaaDoor
namespace Go.Proofs.YtofdnmlpfagibaaDoor
open Go Go.Abs Go.RowKit
variable {w0 : World}
/-- nil, or a row of texts of one's own that is drawn: newer than σ0, and not the reader -/
def OYS (σ0 : AHeap) (g : Nat) (τ : AHeap) (v : Value) (xs : List (List UInt8)) : Prop := (v = .slice none 0 0 ∧ xs = []) ∨ ∃ q, v = .slice (some ⟨q, 0, none⟩) xs.length 1 ∧ τ q = some ⟨texts xs, false⟩ ∧ σ0 q = none ∧ q ≠ g
theorem OYS.texts {σ0 τ : AHeap} {g : Nat} {v : Value} {xs : List (List UInt8)} (w : OYS σ0 g τ v xs) : Texts τ v xs := w.imp id fun ⟨q, e, h, _⟩ => ⟨q, 0, e, textsAt_own h⟩
theorem OYS.sub {σ0 τ τ' : AHeap} {g : Nat} {v : Value} {xs : List (List UInt8)} (w : OYS σ0 g τ v xs) (hs : Sub τ τ') : OYS σ0 g τ' v xs := w.imp id fun ⟨q, e, h, n⟩ => ⟨q, e, hs _ _ h, n⟩
theorem OYS.pick {σ0 τ τ' : AHeap} {g : Nat} {v : Value} {xs : List (List UInt8)} (w : OYS σ0 g τ v xs) (hk : Kept g τ τ') : OYS σ0 g τ' v xs := w.imp id fun ⟨q, e, h, n1, n2⟩ => ⟨q, e, hk.at h n2, n1, n2⟩
theorem planV_small (xs : List Int) : (planV xs).length ≤ 10 ∧ ∀ t ∈ planV xs, t.length ≤ 3 := by
 by_cases h : pfOk xs
 ·have hp := (planV_ok h).1
  refine ⟨hp.2, fun t ht => ?_⟩
  obtain ⟨i, hi, rfl⟩ := List.mem_iff_getElem.1 ht
  have := (hp.1 i hi).2.1.2
  simpa [List.getD, hi] using this
 ·have : planV xs = [] := if_neg h
  rw [this]; simp
end Go.Proofs.YtofdnmlpfagibaaDoor

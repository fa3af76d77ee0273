/- RouteAll of the reference. -/
import Derived.Test.YtphacjkogompoaaCj
set_option linter.unusedSimpArgs false
set_option linter.unusedVariables false
namespace Go.Proofs.Ytphacjkogompoaa
open Go Go.Abs Go.RowKit Go.Clos
variable {w0 : World}

def rtOk (s : Sp) (p : List Int) : Prop := Enough s ∧ Perm p ∧ (p.length : Int) = s.O * s.E
instance (s : Sp) (p : List Int) : Decidable (rtOk s p) := by unfold rtOk; infer_instance
def rtL (s : Sp) (p : List Int) : List Cl := if rtOk s p then routeN s p p.length else []
theorem rtL_no {s : Sp} {p : List Int} (h : ¬ rtOk s p) : rtL s p = [] := by unfold rtL; rw [if_neg h]
theorem rtL_ok {s : Sp} {p : List Int} (h : rtOk s p) : rtL s p = routeN s p p.length := by unfold rtL; rw [if_pos h]
/-- each further call is possible -/
theorem rt_step {s : Sp} {p : List Int} (h : rtOk s p) {k : Nat} (hk : k < p.length) : mvOk s (routeN s p k) k (p.getD k 0) ∧ mvL s (routeN s p k) k (p.getD k 0) = routeN s p (k + 1) := by
  obtain ⟨hE, hP, hl⟩ := h
  obtain ⟨h1, h2⟩ := routeN_CV hE hP.1 hP.2 hl k (by omega)
  have hok : mvOk s (routeN s p k) k (p.getD k 0) := ⟨⟨h1, hE⟩, h2 hk⟩
  exact ⟨hok, mvL_ok hok⟩

theorem specRoute_at (σ : AHeap) (s : Sp) (h o : Nat) (p : List Int) (hv : IntsAt .i64 σ h o p) (hl : p.length ≤ 1048576) :
    ACall Try.prog w0 57 [.agg #[.int .i64 s.O, .int .i64 s.E, .int .i64 s.M], .slice (some ⟨h, o, none⟩) p.length 1] σ fun r σ' => ∃ v, r = .tuple #[v, .bool (decide (rtOk s p))] ∧ Sub σ σ' ∧ OwnC σ σ' v (rtL s p) := by
  refine acall_go mixed Try.func57 rfl good57 fun pr => ?_
  simp -implicitDefEqProofs (disch := omega) only [List.any_cons, List.any_nil, Nat.reduceEqDiff, List.map_cons, List.map_nil, Option.map_some, Option.map_none, List.nil_append, ↓reduceIte, vcu, ↓vcd]
  refine r_boxed fun b τ nb s1 e1 => ?_
  replace e1 : τ b = some ⟨[.int .i64 s.O, .int .i64 s.E, .int .i64 s.M], false⟩ := e1
  have m3 : ∀ τ', Sub τ τ' → lds τ' b 0 3 = some [.int .i64 s.O, .int .i64 s.E, .int .i64 s.M] := fun τ' hs => lds_three (ld_of (hs _ _ e1) rfl) (ld_of (hs _ _ e1) rfl) (ld_of (hs _ _ e1) rfl)
  simp -implicitDefEqProofs (disch := omega) only [List.any_cons, List.any_nil, Nat.reduceEqDiff, List.map_cons, List.map_nil, Option.map_some, Option.map_none, List.nil_append, ↓reduceIte, vcu, ↓vcd]
  refine r_lit el29 (out := #[]) (by kernel_rfl) (by kernel_rfl) fun ea τ1 n1 s2 v1 => ?_
  have hs1 := s1.trans s2
  have nσ := free_sub s1 n1
  have l1 := m3 τ1 s2
  have no := fun (hh : ¬ rtOk s p) => (⟨rtL_no hh, decide_eq_false hh⟩ : rtL s p = [] ∧ decide (rtOk s p) = false)
  simp -implicitDefEqProofs (disch := omega) only [List.any_cons, List.any_nil, Nat.reduceEqDiff, List.map_cons, List.map_nil, Option.map_some, Option.map_none, List.nil_append, ↓reduceIte, vcu, ↓vcd, l1, co24]
  refine (specEnough_at τ1 s.O s.E s.M).mono ?_
  rintro r _ ⟨rfl, rfl⟩
  rename_i τ1
  by_cases hE : Enough s
  case neg =>
    obtain ⟨q1, q2⟩ := no fun hh => hE hh.1
    rw [decide_eq_false hE, q1, q2]
    simp -implicitDefEqProofs (disch := omega) only [List.any_cons, List.any_nil, Nat.reduceEqDiff, List.map_cons, List.map_nil, Option.map_some, Option.map_none, List.nil_append, ↓reduceIte, vcu, ↓vcd, opK_some, Bool.not_false]
    refine fin_two Try.results57 ⟨.slice (some ⟨ea, 0, none⟩) 0 3, ?_, hs1, .inr ⟨ea, rfl, v1, nσ⟩⟩
    simp -implicitDefEqProofs (disch := omega) only [List.any_cons, List.any_nil, Nat.reduceEqDiff, List.map_cons, List.map_nil, Option.map_some, Option.map_none, List.nil_append, ↓reduceIte, vcu, ↓vcd]
  rw [decide_eq_true hE]
  simp -implicitDefEqProofs (disch := omega) only [List.any_cons, List.any_nil, Nat.reduceEqDiff, List.map_cons, List.map_nil, Option.map_some, Option.map_none, List.nil_append, ↓reduceIte, vcu, ↓vcd, opK_some, Bool.not_true]
  refine (perm_at τ1 h o p (hv.sub hs1) hl).mono ?_
  rintro r _ ⟨rfl, rfl⟩
  rename_i τ1
  by_cases hP : Perm p
  case neg =>
    obtain ⟨q1, q2⟩ := no fun hh => hP hh.2.1
    rw [decide_eq_false hP, q1, q2]
    simp -implicitDefEqProofs (disch := omega) only [List.any_cons, List.any_nil, Nat.reduceEqDiff, List.map_cons, List.map_nil, Option.map_some, Option.map_none, List.nil_append, ↓reduceIte, vcu, ↓vcd, opK_some, Bool.not_false]
    refine fin_two Try.results57 ⟨.slice (some ⟨ea, 0, none⟩) 0 3, ?_, hs1, .inr ⟨ea, rfl, v1, nσ⟩⟩
    simp -implicitDefEqProofs (disch := omega) only [List.any_cons, List.any_nil, Nat.reduceEqDiff, List.map_cons, List.map_nil, Option.map_some, Option.map_none, List.nil_append, ↓reduceIte, vcu, ↓vcd]
  rw [decide_eq_true hP]
  simp -implicitDefEqProofs (disch := omega) only [List.any_cons, List.any_nil, Nat.reduceEqDiff, List.map_cons, List.map_nil, Option.map_some, Option.map_none, List.nil_append, ↓reduceIte, vcu, ↓vcd, opK_some, Bool.not_true, l1, co24]
  refine (specLines_at τ1 s.O s.E s.M hE.1).mono ?_
  rintro r _ ⟨rfl, rfl⟩
  rename_i τ1
  by_cases hL : (p.length : Int) = s.O * s.E
  case neg =>
    obtain ⟨q1, q2⟩ := no fun hh => hL hh.2.2
    rw [q1, q2]
    simp -implicitDefEqProofs (disch := omega) only [List.any_cons, List.any_nil, Nat.reduceEqDiff, List.map_cons, List.map_nil, Option.map_some, Option.map_none, List.nil_append, ↓reduceIte, vcu, ↓vcd, opK_some]
    refine fin_two Try.results57 ⟨.slice (some ⟨ea, 0, none⟩) 0 3, ?_, hs1, .inr ⟨ea, rfl, v1, nσ⟩⟩
    simp -implicitDefEqProofs (disch := omega) only [List.any_cons, List.any_nil, Nat.reduceEqDiff, List.map_cons, List.map_nil, Option.map_some, Option.map_none, List.nil_append, ↓reduceIte, vcu, ↓vcd]
  have hok : rtOk s p := ⟨hE, hP, hL⟩
  have hLn := hE.1.lines
  rw [rtL_ok hok, decide_eq_true hok]
  clear no
  have hrl := routeN_length s p
  simp -implicitDefEqProofs (disch := omega) only [List.any_cons, List.any_nil, Nat.reduceEqDiff, List.map_cons, List.map_nil, Option.map_some, Option.map_none, List.nil_append, ↓reduceIte, vcu, ↓vcd, opK_some]
  refine vc_loop_c mixed (by kernel_rfl) [1, 2] (fun m a τ' => ∃ (k g : Nat), m + k = p.length ∧ a 7 = .int .i64 k ∧ a 6 = .slice (some ⟨g, 0, none⟩) k 3 ∧ Sub τ τ' ∧ τ' g = some ⟨tris (routeN s p k), false⟩ ∧ τ g = none) p.length ⟨0, ea, by simp, rfl, rfl, s2, v1, n1⟩ ?_
  rintro m a τ2 hc ⟨k, g, hk, h7, h6, hs, hg, hn⟩
  simp -implicitDefEqProofs (disch := omega) only [List.any_cons, List.any_nil, Nat.reduceEqDiff, List.map_cons, List.map_nil, Option.map_some, Option.map_none, List.nil_append, ↓reduceIte, vcu, ↓vcd] at hc
  obtain ⟨h1, h2, -⟩ := hc
  by_cases hlt : k < p.length
  case neg =>
    obtain rfl : k = p.length := by omega
    simp -implicitDefEqProofs (disch := omega) only [List.any_cons, List.any_nil, Nat.reduceEqDiff, List.map_cons, List.map_nil, Option.map_some, Option.map_none, List.nil_append, ↓reduceIte, vcu, ↓vcd, h1, h2, h6, h7]
    refine fin_two Try.results57 ⟨.slice (some ⟨g, 0, none⟩) p.length 3, ?_, s1.trans hs, .inr ⟨g, by rw [hrl], hg, free_sub s1 hn⟩⟩
    simp -implicitDefEqProofs (disch := omega) only [List.any_cons, List.any_nil, Nat.reduceEqDiff, List.map_cons, List.map_nil, Option.map_some, Option.map_none, List.nil_append, ↓reduceIte, vcu, ↓vcd]
  obtain ⟨st1, st2⟩ := rt_step hok hlt
  have lx := (hv.sub (s1.trans hs)) k hlt
  have l2 := m3 τ2 hs
  have hmv := specMove_at (w0 := w0) τ2 s g 0 (routeN s p k) k (p.getD k 0) (trisAt_own hg) (by rw [hrl]; omega)
  rw [st2, decide_eq_true st1, hrl] at hmv
  simp -implicitDefEqProofs (disch := omega) only [List.any_cons, List.any_nil, Nat.reduceEqDiff, List.map_cons, List.map_nil, Option.map_some, Option.map_none, List.nil_append, ↓reduceIte, vcu, ↓vcd, h1, h2, h6, h7]
  refine region_tree mixed (quiets [0, 1, 2, 3, 4, 5, 6] (.one 7 (quiets [8, 9, 10, 11, 12] .stop))) [([0, 1, 2, 3, 4, 5, 6], Sub τ2)] (by kernel_rfl) (by kernel_rfl) (fun p hp => by simp only [List.mem_singleton] at hp; subst hp; exact Sub.refl _) ?_
  refine tree_quiets τ2 _ _ _ sf1 (by kernel_rfl) (by kernel_rfl) ?_
  simp -implicitDefEqProofs (disch := omega) only [List.any_cons, List.any_nil, Nat.reduceEqDiff, List.map_cons, List.map_nil, Option.map_some, Option.map_none, List.nil_append, ↓reduceIte, vcu, ↓vcd, pickOps_nil, pickOps_cons, pickO_some, List.getElem?_cons_succ, List.getElem?_cons_zero, h1, h2, h6, h7, lx, l2, co24, Int.toNat_natCast]
  refine tree_one rfl ?_
  simp -implicitDefEqProofs (disch := omega) only [List.any_cons, List.any_nil, Nat.reduceEqDiff, List.map_cons, List.map_nil, Option.map_some, Option.map_none, List.nil_append, ↓reduceIte, vcu, ↓vcd]
  refine hmv.mono ?_
  rintro _ τ3 ⟨v, rfl, s3, w3⟩
  simp -implicitDefEqProofs (disch := omega) only [List.any_cons, List.any_nil, Nat.reduceEqDiff, List.map_cons, List.map_nil, Option.map_some, Option.map_none, List.nil_append, ↓reduceIte, vcu, ↓vcd, opK_some]
  refine ⟨keep_of rfl (fun p hp => by simp only [List.mem_singleton] at hp; subst hp; exact .inr s3), ?_⟩
  refine tree_quiets (fun _ => none) _ _ _ (fun _ _ _ _ => fun x ob e => by cases e) (by kernel_rfl) (by kernel_rfl) ?_
  simp -implicitDefEqProofs (disch := omega) only [List.any_cons, List.any_nil, Nat.reduceEqDiff, List.map_cons, List.map_nil, Option.map_some, Option.map_none, List.nil_append, ↓reduceIte, vcu, ↓vcd, pickOps_nil, pickOps_cons, pickO_some, List.getElem?_cons_succ, List.getElem?_cons_zero, List.getElem?_toArray, List.getElem?_cons_zero, List.getElem?_cons_succ]
  refine tree_stop ?_
  obtain ⟨g3, rfl, v3, n3⟩ := w3.row (by rw [hrl]; omega)
  rw [hrl]
  simp -implicitDefEqProofs (disch := omega) only [List.any_cons, List.any_nil, Nat.reduceEqDiff, List.map_cons, List.map_nil, Option.map_some, Option.map_none, List.nil_append, ↓reduceIte, vcu, ↓vcd, h1, h2, h6, h7]
  exact ⟨⟨trivial, trivial, trivial⟩, m - 1, by omega, k + 1, g3, by omega, by simp, by simp, hs.trans s3, v3, free_sub hs n3⟩
end Go.Proofs.Ytphacjkogompoaa

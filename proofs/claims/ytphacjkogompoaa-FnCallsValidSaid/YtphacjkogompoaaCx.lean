/- RouteAll of the program. -/
import Derived.Test.YtphacjkogompoaaDh
import Derived.Test.YtphacjkogompoaaCk
set_option linter.unusedSimpArgs false
set_option linter.unusedVariables false
namespace Go.Proofs.Ytphacjkogompoaa
open Go Go.Abs Go.RowKit Go.Clos
variable {w0 : World}

theorem implMove_calls (σ : AHeap) (s : Sp) (v : Value) (cs : List Cl) (I O : Int) (hv : Tris σ v cs) (hl : cs.length ≤ 1048576) :
    ACall Try.prog w0 52 [.agg #[.int .i64 s.O, .int .i64 s.E, .int .i64 s.M], v, .int .i64 I, .int .i64 O] σ fun r σ' => ∃ v, r = .tuple #[v, .bool (decide (mvOk s cs I O))] ∧ Sub σ σ' ∧ OwnC σ σ' v (mvL s cs I O) :=
  ACall.tris_arg (pre := [_]) (post := [_, _]) (by kernel_rfl) hv fun σ1 h o hs hg => (implMove_at σ1 s h o cs I O hg hl).mono fun r σ' ⟨v, h1, h2, h3⟩ => ⟨v, h1, hs.trans h2, h3.older hs⟩
theorem all_perm {s : Sp} {p : List Int} (hl : (p.length : Int) = s.O * s.E) (h : ∀ j, j < p.length → mvOk s (routeN s p j) j (p.getD j 0)) : Perm p := by
  refine ⟨fun x hx => ?_, nodup_take.2 fun j hj hm => ?_⟩
  · obtain ⟨j, hj, rfl⟩ := List.getElem_of_mem hx
    have := (h j hj).2.1.2
    have e : p.getD j 0 = p[j] := by simp [List.getD, hj]
    rw [e] at this
    omega
  · obtain ⟨i, hi, e⟩ := List.getElem_of_mem hm
    simp only [List.length_take] at hi
    have e2 : p.getD i 0 = p.getD j 0 := by
      rw [← e]; simp [List.getD, show i < p.length by omega]
    refine (h j hj).2.2 ⟨gc (routeN s p j) i, gc_mem (by rw [routeN_length]; omega), .inr ?_⟩
    rw [(routeN_at s p j i (by omega)).2, e2]
theorem implRoute_at (σ : AHeap) (s : Sp) (h o : Nat) (p : List Int) (hv : IntsAt .i64 σ h o p) (hl : p.length ≤ 1048576) :
    ACall Try.prog w0 50 [.agg #[.int .i64 s.O, .int .i64 s.E, .int .i64 s.M], .slice (some ⟨h, o, none⟩) p.length 1] σ fun r σ' => ∃ v, r = .tuple #[v, .bool (decide (rtOk s p))] ∧ Sub σ σ' ∧ OwnC σ σ' v (rtL s p) := by
  refine acall_go mixed Try.func50 rfl good50 fun pr => ?_
  simp -implicitDefEqProofs (disch := omega) only [List.any_cons, List.any_nil, Nat.reduceEqDiff, List.map_cons, List.map_nil, Option.map_some, Option.map_none, List.nil_append, ↓reduceIte, vcu, ↓vcd]
  refine r_boxed fun b τ nb s1 e1 => ?_
  replace e1 : τ b = some ⟨[.int .i64 s.O, .int .i64 s.E, .int .i64 s.M], false⟩ := e1
  have m3 : ∀ τ', Sub τ τ' → lds τ' b 0 3 = some [.int .i64 s.O, .int .i64 s.E, .int .i64 s.M] := fun τ' hs => lds_three (ld_of (hs _ _ e1) rfl) (ld_of (hs _ _ e1) rfl) (ld_of (hs _ _ e1) rfl)
  have l3 := m3 τ (Sub.refl _)
  have lO : ld τ b (0 + 0) = some (.int .i64 s.O) := ld_of e1 rfl
  have lE : ld τ b (0 + 1) = some (.int .i64 s.E) := ld_of e1 rfl
  have no := fun (hh : ¬ rtOk s p) => (⟨rtL_no hh, decide_eq_false hh⟩ : rtL s p = [] ∧ decide (rtOk s p) = false)
  simp -implicitDefEqProofs (disch := omega) only [List.any_cons, List.any_nil, Nat.reduceEqDiff, List.map_cons, List.map_nil, Option.map_some, Option.map_none, List.nil_append, ↓reduceIte, vcu, ↓vcd, l3, co24]
  refine (implEnough_at τ s.O s.E s.M).mono ?_
  rintro r _ ⟨rfl, rfl⟩
  rename_i τ
  by_cases hE : Enough s
  case neg =>
    obtain ⟨q1, q2⟩ := no fun hh => hE hh.1
    rw [decide_eq_false hE, q1, q2]
    simp -implicitDefEqProofs (disch := omega) only [List.any_cons, List.any_nil, Nat.reduceEqDiff, List.map_cons, List.map_nil, Option.map_some, Option.map_none, List.nil_append, ↓reduceIte, vcu, ↓vcd, opK_some, Bool.not_false]
    refine fin_two Try.results50 ⟨.slice none 0 0, ?_, s1, .inl ⟨rfl, rfl⟩⟩
    simp -implicitDefEqProofs (disch := omega) only [List.any_cons, List.any_nil, Nat.reduceEqDiff, List.map_cons, List.map_nil, Option.map_some, Option.map_none, List.nil_append, ↓reduceIte, vcu, ↓vcd]
  rw [decide_eq_true hE]
  have hLn := hE.1.lines
  by_cases hL : (p.length : Int) = s.O * s.E
  case neg =>
    obtain ⟨q1, q2⟩ := no fun hh => hL hh.2.2
    rw [q1, q2]
    have hd : decide ((p.length : Int) ≠ s.O * s.E) = true := decide_eq_true hL
    simp -implicitDefEqProofs (disch := omega) only [List.any_cons, List.any_nil, Nat.reduceEqDiff, List.map_cons, List.map_nil, Option.map_some, Option.map_none, List.nil_append, ↓reduceIte, vcu, ↓vcd, opK_some, Bool.not_true, lO, lE, hd]
    refine fin_two Try.results50 ⟨.slice none 0 0, ?_, s1, .inl ⟨rfl, rfl⟩⟩
    simp -implicitDefEqProofs (disch := omega) only [List.any_cons, List.any_nil, Nat.reduceEqDiff, List.map_cons, List.map_nil, Option.map_some, Option.map_none, List.nil_append, ↓reduceIte, vcu, ↓vcd]
  have hd : decide ((p.length : Int) ≠ s.O * s.E) = false := decide_eq_false (fun hh => hh hL)
  simp -implicitDefEqProofs (disch := omega) only [List.any_cons, List.any_nil, Nat.reduceEqDiff, List.map_cons, List.map_nil, Option.map_some, Option.map_none, List.nil_append, ↓reduceIte, vcu, ↓vcd, opK_some, Bool.not_true, lO, lE, hd]
  refine vc_loop_c mixed (by kernel_rfl) [1, 2, 24, 25] (fun m a τ' => ∃ k : Nat, m + k = p.length ∧ a 26 = .int .i64 k ∧ Sub τ τ' ∧ OwnC τ τ' (a 6) (routeN s p k) ∧ ∀ j, j < k → mvOk s (routeN s p j) j (p.getD j 0)) p.length ⟨0, by simp, rfl, Sub.refl _, .inl ⟨rfl, rfl⟩, fun j hj => absurd hj (by omega)⟩ ?_
  rintro m a τ2 hc ⟨k, hk, h26, hs, hO, hall⟩
  simp -implicitDefEqProofs (disch := omega) only [List.any_cons, List.any_nil, Nat.reduceEqDiff, List.map_cons, List.map_nil, Option.map_some, Option.map_none, List.nil_append, ↓reduceIte, vcu, ↓vcd] at hc
  obtain ⟨h1, h2, h24, h25, -⟩ := hc
  by_cases hlt : k < p.length
  case neg =>
    obtain rfl : k = p.length := by omega
    have hok : rtOk s p := ⟨hE, all_perm hL hall, hL⟩
    rw [rtL_ok hok, decide_eq_true hok]
    simp -implicitDefEqProofs (disch := omega) only [List.any_cons, List.any_nil, Nat.reduceEqDiff, List.map_cons, List.map_nil, Option.map_some, Option.map_none, List.nil_append, ↓reduceIte, vcu, ↓vcd, h1, h2, h24, h25, h26]
    refine fin_two Try.results50 ⟨a 6, ?_, s1.trans hs, hO.older s1⟩
    simp -implicitDefEqProofs (disch := omega) only [List.any_cons, List.any_nil, Nat.reduceEqDiff, List.map_cons, List.map_nil, Option.map_some, Option.map_none, List.nil_append, ↓reduceIte, vcu, ↓vcd]
  have lx := (hv.sub (s1.trans hs)) k hlt
  have l2 := m3 τ2 hs
  have hmv := implMove_calls (w0 := w0) τ2 s (a 6) (routeN s p k) k (p.getD k 0) hO.tris (by rw [routeN_length]; omega)
  simp -implicitDefEqProofs (disch := omega) only [List.any_cons, List.any_nil, Nat.reduceEqDiff, List.map_cons, List.map_nil, Option.map_some, Option.map_none, List.nil_append, ↓reduceIte, vcu, ↓vcd, h1, h2, h24, h25, h26, lx, l2, co24]
  refine hmv.mono ?_
  clear hmv
  rintro _ τ3 ⟨v, rfl, s3, w3⟩
  by_cases hok : mvOk s (routeN s p k) k (p.getD k 0)
  · rw [decide_eq_true hok]
    rw [mvL_ok hok] at w3
    simp -implicitDefEqProofs (disch := omega) only [List.any_cons, List.any_nil, Nat.reduceEqDiff, List.map_cons, List.map_nil, Option.map_some, Option.map_none, List.nil_append, ↓reduceIte, vcu, ↓vcd, opK_some, List.getElem?_toArray, List.getElem?_cons_zero, List.getElem?_cons_succ, Bool.not_true, h1, h2, h24, h25, h26]
    refine ⟨⟨trivial, trivial, trivial, trivial, trivial⟩, m - 1, by omega, k + 1, by omega, by simp, hs.trans s3, w3.older hs, fun j hj => ?_⟩
    by_cases e : j = k
    · subst e; exact hok
    · exact hall j (by omega)
  · have hno : ¬ rtOk s p := fun hh => hok (rt_step hh hlt).1
    obtain ⟨q1, q2⟩ := no hno
    rw [decide_eq_false hok, q1, q2]
    simp -implicitDefEqProofs (disch := omega) only [List.any_cons, List.any_nil, Nat.reduceEqDiff, List.map_cons, List.map_nil, Option.map_some, Option.map_none, List.nil_append, ↓reduceIte, vcu, ↓vcd, opK_some, List.getElem?_toArray, List.getElem?_cons_zero, List.getElem?_cons_succ, Bool.not_false, h1, h2, h24, h25, h26]
    refine fin_two Try.results50 ⟨.slice none 0 0, ?_, s1.trans (hs.trans s3), .inl ⟨rfl, rfl⟩⟩
    simp -implicitDefEqProofs (disch := omega) only [List.any_cons, List.any_nil, Nat.reduceEqDiff, List.map_cons, List.map_nil, Option.map_some, Option.map_none, List.nil_append, ↓reduceIte, vcu, ↓vcd]
end Go.Proofs.Ytphacjkogompoaa

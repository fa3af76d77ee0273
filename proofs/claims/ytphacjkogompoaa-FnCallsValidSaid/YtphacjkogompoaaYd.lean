/- Calls that are drawn. -/
import Derived.Test.YtphacjkogompoaaYc
import Derived.Test.YtphacjkogompoaaDd
import Derived.Test.YtphacjkogompoaaCj
set_option linter.unusedSimpArgs false
set_option linter.unusedVariables false
namespace Go.Proofs.Ytphacjkogompoaa
open Go Go.Abs Go.RowKit Go.Clos
variable {w0 : World}

theorem specDrop_calls (σ : AHeap) (s : Sp) (v : Value) (cs : List Cl) (I : Int) (hv : Tris σ v cs) (hl : cs.length ≤ 1048576) :
    ACall Try.prog w0 44 [.agg #[.int .i64 s.O, .int .i64 s.E, .int .i64 s.M], v, .int .i64 I] σ fun r σ' => ∃ v, r = .tuple #[v, .bool (dropOk s cs I)] ∧ Sub σ σ' ∧ OwnC σ σ' v (drL s cs I) :=
  ACall.tris_arg (pre := [_]) (post := [_]) (by kernel_rfl) hv fun σ1 h o hs hg => (specDrop_at σ1 s h o cs I hg hl).mono fun r σ' ⟨v, h1, h2, h3⟩ => ⟨v, h1, hs.trans h2, h3.older hs⟩
theorem specMove_calls (σ : AHeap) (s : Sp) (v : Value) (cs : List Cl) (I O : Int) (hv : Tris σ v cs) (hl : cs.length ≤ 1048576) :
    ACall Try.prog w0 53 [.agg #[.int .i64 s.O, .int .i64 s.E, .int .i64 s.M], v, .int .i64 I, .int .i64 O] σ fun r σ' => ∃ v, r = .tuple #[v, .bool (decide (mvOk s cs I O))] ∧ Sub σ σ' ∧ OwnC σ σ' v (mvL s cs I O) :=
  ACall.tris_arg (pre := [_]) (post := [_, _]) (by kernel_rfl) hv fun σ1 h o hs hg => (specMove_at σ1 s h o cs I O hg hl).mono fun r σ' ⟨v, h1, h2, h3⟩ => ⟨v, h1, hs.trans h2, h3.older hs⟩
theorem specFree_calls (σ : AHeap) (s : Sp) (v : Value) (cs : List Cl) (I O : Int) (hv : Tris σ v cs) (hl : cs.length ≤ 1048576) :
    ACall Try.prog w0 33 [.agg #[.int .i64 s.O, .int .i64 s.E, .int .i64 s.M], v, .int .i64 I, .int .i64 O] σ fun r σ' => Sub σ σ' ∧ OwnI σ σ' r (freeV s cs I O) :=
  ACall.tris_arg (pre := [_]) (post := [_, _]) (by kernel_rfl) hv fun σ1 h o hs hg => (specFree_at σ1 s h o cs I O hg hl).mono fun r σ' ⟨h2, h3⟩ => ⟨hs.trans h2, h3.older hs⟩
theorem mvL_len13 {s : Sp} {cs : List Cl} {i o : Int} (hl : cs.length ≤ 13) : (mvL s cs i o).length ≤ 13 := by
  by_cases h : CV s cs ∧ Enough s
  · have := h.1.len
    by_cases h2 : mvOk s cs i o
    · rw [mvL_ok h2, moveL_length]; omega
    · rw [mvL_same h h2]; omega
  · rw [mvL_no h]; simp
theorem free_CV {s : Sp} {cs : List Cl} {i o : Int} (h : 0 < (freeV s cs i o).length) : CV s cs := by
  cases hf : freeV s cs i o with
  | nil => rw [hf] at h; simp at h
  | cons v vs => exact (mem_freeV.1 (show v ∈ freeV s cs i o by rw [hf]; simp)).lines.1
/-- calls of one's own that are drawn: newer than σ0, and not the reader -/
def OwnY (σ0 : AHeap) (g : Nat) (τ : AHeap) (v : Value) (cs : List Cl) : Prop := (v = .slice none 0 0 ∧ cs = []) ∨ ∃ q, v = .slice (some ⟨q, 0, none⟩) cs.length 3 ∧ τ q = some ⟨tris cs, false⟩ ∧ σ0 q = none ∧ q ≠ g
section
variable {β σ0 τ τ' : AHeap} {g h o : Nat} {bs : List Int} {p : Int} {v : Value} {cs : List Cl}
theorem OwnY.tris (w : OwnY σ0 g τ v cs) : Tris τ v cs := w.imp id fun ⟨q, e, h, _⟩ => ⟨q, 0, e, trisAt_own h⟩
theorem OwnY.sub (w : OwnY σ0 g τ v cs) (hs : Sub τ τ') : OwnY σ0 g τ' v cs := w.imp id fun ⟨q, e, h, n⟩ => ⟨q, e, hs _ _ h, n⟩
theorem OwnY.pick (w : OwnY σ0 g τ v cs) (hk : Kept g τ τ') : OwnY σ0 g τ' v cs := w.imp id fun ⟨q, e, h, n1, n2⟩ => ⟨q, e, hk.at h n2, n1, n2⟩
theorem OwnY.row (w : OwnY σ0 g τ v cs) (h0 : 0 < cs.length) : ∃ q, v = .slice (some ⟨q, 0, none⟩) cs.length 3 ∧ τ q = some ⟨Go.Abs.tris cs, false⟩ ∧ σ0 q = none ∧ q ≠ g := by
  rcases w with ⟨_, rfl⟩ | h
  · simp at h0
  · exact h
theorem DS.own (d : DS β σ0 τ g h o bs p) (w : OwnC τ τ' v cs) : OwnY σ0 g τ' v cs := w.imp id fun ⟨q, e, h, n⟩ => ⟨q, e, h, d.fresh n⟩
theorem OwnY.len (w : OwnY σ0 g τ v cs) : alenV Try.prog 29 v = some (.int .i64 (cs.length : Int)) := by
  rcases w with ⟨rfl, rfl⟩ | ⟨g, rfl, -, -⟩
  · exact alenV_slice Try.underlying29
  · exact alenV_slice Try.underlying29
end
theorem fin_ct {P : Program} {fn : Func} {R : Value → AHeap → Prop} {a : AFrame} {σ : AHeap} {t u : Nat} {ty : TypeId} {v : Value} (h : fn.results = #[.cell t ty, .tmp u]) (σ'' : AHeap) (hs : Sub σ'' σ) (hv : aload P σ ty (a t) = some v) (hr : R (.tuple #[v, a u]) σ'') : finC P fn R a σ :=
  ⟨[v, a u], σ'', by simp [h, rvals, hv], hs, hr⟩

theorem OwnY.older {β σ0 σx τ : AHeap} {g h o : Nat} {bs : List Int} {p : Int} {v : Value} {cs : List Cl} (w : OwnY σx g τ v cs) (d : DS β σ0 σx g h o bs p) : OwnY σ0 g τ v cs := w.imp id fun ⟨q, e, h, n, _⟩ => ⟨q, e, h, d.fresh n⟩
theorem OwnY.put {σ0 τ τ' : AHeap} {g c : Nat} {v : Value} {cs : List Cl} {ob : AObj} (w : OwnY σ0 g τ v cs) (hk : Kept c τ τ') (hc : σ0 c = some ob) : OwnY σ0 g τ' v cs := w.imp id fun ⟨q, e, h, n1, n2⟩ => ⟨q, e, hk.at h (ne_of n1 hc), n1, n2⟩

set_option maxRecDepth 8000 in
set_option maxHeartbeats 3200000 in
theorem calls_draw (β σ : AHeap) (g h o : Nat) (bs : List Int) (p n : Int) (hr : Rd β σ g h o bs p) (hp : 0 ≤ p ∧ p ≤ 1000) (hn : 1 ≤ n ∧ n ≤ 100) :
    ACall Try.prog w0 73 [.pointer (some ⟨g, 0, none⟩), .int .i64 n] σ fun r σ' => ∃ (s : Sp) (v : Value) (cs : List Cl) (p' : Int), r = .tuple #[.agg #[.int .i64 s.O, .int .i64 s.E, .int .i64 s.M], v] ∧ Drawn s ∧ cs.length ≤ 14 ∧ OwnY σ g σ' v cs ∧ p ≤ p' ∧ p' ≤ p + 100 ∧ DS β σ σ' g h o bs p' := by
  refine acall_goc mixed Try.func73 rfl goodc73 fun pr => ?_
  simp -implicitDefEqProofs (disch := omega) only [List.any_cons, List.any_nil, Nat.reduceEqDiff, List.map_cons, List.map_nil, Option.map_some, Option.map_none, List.nil_append, ↓reduceIte, vcu, ↓vcd]
  refine r_new ze24 fun c4 τ1 n4 s1 e4 => ?_
  replace e4 : τ1 c4 = some ⟨[.int .i64 0, .int .i64 0, .int .i64 0], false⟩ := e4
  have d1 := (DS.start hr).new s1
  obtain ⟨n4, g4⟩ := (DS.start hr).fresh n4
  clear s1
  simp -implicitDefEqProofs (disch := omega) only [List.any_cons, List.any_nil, Nat.reduceEqDiff, List.map_cons, List.map_nil, Option.map_some, Option.map_none, List.nil_append, ↓reduceIte, vcu, ↓vcd]
  refine (shape_draw β τ1 g h o bs p (2 * n) d1.rd (by omega) (by omega)).mono ?_
  rintro _ τ2 ⟨s, p2, rfl, hD, hp1, hp2, ds⟩
  have d2 := d1.on ds
  replace e4 := ds.kp.at e4 g4
  clear ds d1
  simp -implicitDefEqProofs (disch := omega) only [List.any_cons, List.any_nil, Nat.reduceEqDiff, List.map_cons, List.map_nil, Option.map_some, Option.map_none, List.nil_append, ↓reduceIte, vcu, ↓vcd, opK_some]
  refine r_local (cs := #[.int .i64 s.O, .int .i64 s.E, .int .i64 s.M]) ze24 (by decide) (by simp -implicitDefEqProofs (disch := omega) only [List.any_cons, List.any_nil, Nat.reduceEqDiff, List.map_cons, List.map_nil, Option.map_some, Option.map_none, List.nil_append, ↓reduceIte, vcu, ↓vcd]) (by rw [co24]; rfl) rfl rfl (Nat.zero_lt_succ _) fun c6 τ3 n6 s3 e6 => ?_
  replace e6 : τ3 c6 = some ⟨[.int .i64 s.O, .int .i64 s.E, .int .i64 s.M], false⟩ := e6
  have dσ := d2.new s3
  obtain ⟨n6, g6⟩ := d2.fresh n6
  replace e4 := s3 _ _ e4
  have d3 := DS.start dσ.rd
  clear s3 d2
  simp -implicitDefEqProofs (disch := omega) only [List.any_cons, List.any_nil, Nat.reduceEqDiff, List.map_cons, List.map_nil, Option.map_some, Option.map_none, List.nil_append, ↓reduceIte, vcu, ↓vcd]
  refine r_lit el29 (out := #[]) (by kernel_rfl) (by kernel_rfl) fun q0 τ4 n0 s4 v0 => ?_
  have d4 := d3.new s4
  obtain ⟨n0, g0⟩ := d3.fresh n0
  have hOwn : OwnY τ3 g τ4 (.slice (some ⟨q0, 0, none⟩) 0 3) [] := .inr ⟨q0, rfl, v0, n0, g0⟩
  have hLn := hD.lines
  have lO : ld τ4 c6 (0 + 0) = some (.int .i64 s.O) := ld_of (s4 _ _ e6) rfl
  have lE : ld τ4 c6 (0 + 1) = some (.int .i64 s.E) := ld_of (s4 _ _ e6) rfl
  clear s4 d3 v0 n0 g0
  simp -implicitDefEqProofs (disch := omega) only [List.any_cons, List.any_nil, Nat.reduceEqDiff, List.map_cons, List.map_nil, Option.map_some, Option.map_none, List.nil_append, ↓reduceIte, vcu, ↓vcd, lO, lE]
  have hL1 : 1 ≤ max (s.O * s.E) 1 ∧ max (s.O * s.E) 1 ≤ 20 := by omega
  generalize max (s.O * s.E) 1 = L at *
  refine (pick_at β τ4 g h o bs p2 16 d4.rd (by omega) (by omega)).mono ?_
  rintro r τ5 ⟨z0, rfl, a1, a2, hR, hK⟩
  have d5 := d4.step hR hK
  replace hOwn := hOwn.pick hK
  clear hR hK d4 lO lE
  obtain ⟨k0, rfl⟩ : ∃ k0 : Nat, z0 = k0 := ⟨z0.toNat, by omega⟩
  simp -implicitDefEqProofs (disch := omega) only [List.any_cons, List.any_nil, Nat.reduceEqDiff, List.map_cons, List.map_nil, Option.map_some, Option.map_none, List.nil_append, ↓reduceIte, vcu, ↓vcd, opK_some]
  refine vc_loop_c mixed (by kernel_rfl) [0, 1, 4, 6, 8] (fun m a τ' => ∃ (v : Value) (cs : List Cl) (p' : Int), a 9 = .int .i64 (m : Int) ∧ a 7 = v ∧ OwnY τ3 g τ' v cs ∧ cs.length ≤ 13 ∧ p2 + 1 ≤ p' ∧ p' + 4 * m ≤ p2 + 61 ∧ DS β τ3 τ' g h o bs p') k0 ⟨_, [], p2 + 1, rfl, rfl, hOwn, by simp, by omega, by omega, d5⟩ ?_
  clear hOwn d5 a1 a2
  rintro m a τ hc ⟨v, cs, p', h9, h7, w, hl13, hp3, hp4, d⟩
  simp -implicitDefEqProofs (disch := omega) only [List.any_cons, List.any_nil, Nat.reduceEqDiff, List.map_cons, List.map_nil, Option.map_some, Option.map_none, List.nil_append, ↓reduceIte, vcu, ↓vcd] at hc
  obtain ⟨h0, h1, h4, h6, h8, -⟩ := hc
  cases m with
  | zero =>
    have hlen := w.len
    simp -implicitDefEqProofs (disch := omega) only [List.any_cons, List.any_nil, Nat.reduceEqDiff, List.map_cons, List.map_nil, Option.map_some, Option.map_none, List.nil_append, ↓reduceIte, vcu, ↓vcd, h0, h1, h4, h6, h7, h8, h9]
    refine (odd_at β τ g h o bs p' (2 * n) d.rd (by omega) (by omega)).mono ?_
    rintro r τ1 ⟨bb, rfl, hR, hK⟩
    have d1 := d.step hR hK
    replace w := w.pick hK
    clear hR hK d
    have e61 := d1.kp.at e6 g6
    have l6 : lds τ1 c6 0 3 = some [.int .i64 s.O, .int .i64 s.E, .int .i64 s.M] := lds_three (ld_of e61 rfl) (ld_of e61 rfl) (ld_of e61 rfl)
    have lM : ld τ1 c6 (0 + 2) = some (.int .i64 s.M) := ld_of e61 rfl
    have fin : ∀ (τ9 τ10 : AHeap) (a9 : AFrame) (v9 : Value) (cs9 : List Cl) (p9 : Int), a9 5 = v9 → a9 4 = .pointer (some ⟨c4, 0, none⟩) → cs9.length ≤ 14 → OwnY τ3 g τ9 v9 cs9 → p ≤ p9 ∧ p9 ≤ p + 100 → DS β τ3 τ9 g h o bs p9 → Kept c4 τ9 τ10 → τ10 c4 = some ⟨[.int .i64 s.O, .int .i64 s.E, .int .i64 s.M], false⟩ → finC Try.prog Try.f73 (fun r σ' => ∃ (s : Sp) (v : Value) (cs : List Cl) (p' : Int), r = .tuple #[.agg #[.int .i64 s.O, .int .i64 s.E, .int .i64 s.M], v] ∧ Drawn s ∧ cs.length ≤ 14 ∧ OwnY σ g σ' v cs ∧ p ≤ p' ∧ p' ≤ p + 100 ∧ DS β σ σ' g h o bs p') a9 τ10 := by
      intro τ9 τ10 a9 v9 cs9 p9 q5 q4 hl9 w9 hp9 d9 hk f4
      have l4 : lds τ10 c4 0 3 = some [.int .i64 s.O, .int .i64 s.E, .int .i64 s.M] := lds_three (ld_of f4 rfl) (ld_of f4 rfl) (ld_of f4 rfl)
      exact fin_ct Try.results73 τ10 (Sub.refl _) (v := .agg #[.int .i64 s.O, .int .i64 s.E, .int .i64 s.M]) (by simp -implicitDefEqProofs (disch := omega) only [List.any_cons, List.any_nil, Nat.reduceEqDiff, List.map_cons, List.map_nil, Option.map_some, Option.map_none, List.nil_append, ↓reduceIte, vcu, ↓vcd, q4, l4, co24]) ⟨s, v9, cs9, p9, by rw [q5], hD, hl9, (w9.put hk e4).older dσ, hp9.1, hp9.2, (dσ.on d9).put hk g4 n4⟩
    cases bb with
    | false =>
      simp -implicitDefEqProofs (disch := omega) only [List.any_cons, List.any_nil, Nat.reduceEqDiff, List.map_cons, List.map_nil, Option.map_some, Option.map_none, List.nil_append, ↓reduceIte, vcu, ↓vcd, opK_some, h0, h1, h4, h6, h7, h8, h9, l6, co24]
      refine r_sets (g := c4) (i := 0) (C := [.int .i64 0, .int .i64 0, .int .i64 0]) (by simp -implicitDefEqProofs (disch := omega) only [List.any_cons, List.any_nil, Nat.reduceEqDiff, List.map_cons, List.map_nil, Option.map_some, Option.map_none, List.nil_append, ↓reduceIte, vcu, ↓vcd, h4]) (by simp -implicitDefEqProofs (disch := omega) only [List.any_cons, List.any_nil, Nat.reduceEqDiff, List.map_cons, List.map_nil, Option.map_some, Option.map_none, List.nil_append, ↓reduceIte, vcu, ↓vcd, co24]; rfl) (by simp -implicitDefEqProofs (disch := omega) only [List.any_cons, List.any_nil, Nat.reduceEqDiff, List.map_cons, List.map_nil, Option.map_some, Option.map_none, List.nil_append, ↓reduceIte, vcu, ↓vcd]; rfl) (by simp -implicitDefEqProofs (disch := omega) only [List.any_cons, List.any_nil, Nat.reduceEqDiff, List.map_cons, List.map_nil, Option.map_some, Option.map_none, List.nil_append, ↓reduceIte, vcu, ↓vcd]; exact Nat.zero_lt_succ _) (d1.kp.at e4 g4) (by simp -implicitDefEqProofs (disch := omega) only [List.any_cons, List.any_nil, Nat.reduceEqDiff, List.map_cons, List.map_nil, Option.map_some, Option.map_none, List.nil_append, ↓reduceIte, vcu, ↓vcd]; exact Nat.le_refl _) fun τ2 k2 e2 => ?_
      replace e2 : τ2 c4 = some ⟨[.int .i64 s.O, .int .i64 s.E, .int .i64 s.M], false⟩ := e2
      simp -implicitDefEqProofs (disch := omega) only [List.any_cons, List.any_nil, Nat.reduceEqDiff, List.map_cons, List.map_nil, Option.map_some, Option.map_none, List.nil_append, ↓reduceIte, vcu, ↓vcd, h7]
      exact fin _ _ _ v cs (p' + 1) (by simp -implicitDefEqProofs (disch := omega) only [List.any_cons, List.any_nil, Nat.reduceEqDiff, List.map_cons, List.map_nil, Option.map_some, Option.map_none, List.nil_append, ↓reduceIte, vcu, ↓vcd, h7]) (by simp -implicitDefEqProofs (disch := omega) only [List.any_cons, List.any_nil, Nat.reduceEqDiff, List.map_cons, List.map_nil, Option.map_some, Option.map_none, List.nil_append, ↓reduceIte, vcu, ↓vcd, h4]) (by omega) w (by omega) d1 k2 e2
    | true =>
      by_cases h0c : 0 < cs.length
      case neg =>
        simp -implicitDefEqProofs (disch := omega) only [List.any_cons, List.any_nil, Nat.reduceEqDiff, List.map_cons, List.map_nil, Option.map_some, Option.map_none, List.nil_append, ↓reduceIte, vcu, ↓vcd, opK_some, h0, h1, h4, h6, h7, h8, h9, hlen, l6, co24]
        refine r_sets (g := c4) (i := 0) (C := [.int .i64 0, .int .i64 0, .int .i64 0]) (by simp -implicitDefEqProofs (disch := omega) only [List.any_cons, List.any_nil, Nat.reduceEqDiff, List.map_cons, List.map_nil, Option.map_some, Option.map_none, List.nil_append, ↓reduceIte, vcu, ↓vcd, h4]) (by simp -implicitDefEqProofs (disch := omega) only [List.any_cons, List.any_nil, Nat.reduceEqDiff, List.map_cons, List.map_nil, Option.map_some, Option.map_none, List.nil_append, ↓reduceIte, vcu, ↓vcd, co24]; rfl) (by simp -implicitDefEqProofs (disch := omega) only [List.any_cons, List.any_nil, Nat.reduceEqDiff, List.map_cons, List.map_nil, Option.map_some, Option.map_none, List.nil_append, ↓reduceIte, vcu, ↓vcd]; rfl) (by simp -implicitDefEqProofs (disch := omega) only [List.any_cons, List.any_nil, Nat.reduceEqDiff, List.map_cons, List.map_nil, Option.map_some, Option.map_none, List.nil_append, ↓reduceIte, vcu, ↓vcd]; exact Nat.zero_lt_succ _) (d1.kp.at e4 g4) (by simp -implicitDefEqProofs (disch := omega) only [List.any_cons, List.any_nil, Nat.reduceEqDiff, List.map_cons, List.map_nil, Option.map_some, Option.map_none, List.nil_append, ↓reduceIte, vcu, ↓vcd]; exact Nat.le_refl _) fun τ2 k2 e2 => ?_
        replace e2 : τ2 c4 = some ⟨[.int .i64 s.O, .int .i64 s.E, .int .i64 s.M], false⟩ := e2
        simp -implicitDefEqProofs (disch := omega) only [List.any_cons, List.any_nil, Nat.reduceEqDiff, List.map_cons, List.map_nil, Option.map_some, Option.map_none, List.nil_append, ↓reduceIte, vcu, ↓vcd, h7]
        exact fin _ _ _ v cs (p' + 1) (by simp -implicitDefEqProofs (disch := omega) only [List.any_cons, List.any_nil, Nat.reduceEqDiff, List.map_cons, List.map_nil, Option.map_some, Option.map_none, List.nil_append, ↓reduceIte, vcu, ↓vcd, h7]) (by simp -implicitDefEqProofs (disch := omega) only [List.any_cons, List.any_nil, Nat.reduceEqDiff, List.map_cons, List.map_nil, Option.map_some, Option.map_none, List.nil_append, ↓reduceIte, vcu, ↓vcd, h4]) (by omega) w (by omega) d1 k2 e2
      simp -implicitDefEqProofs (disch := omega) only [List.any_cons, List.any_nil, Nat.reduceEqDiff, List.map_cons, List.map_nil, Option.map_some, Option.map_none, List.nil_append, ↓reduceIte, vcu, ↓vcd, opK_some, h0, h1, h4, h6, h7, h8, h9, hlen]
      refine (pick_at β τ1 g h o bs (p' + 1) 3 d1.rd (by omega) (by omega)).mono ?_
      rintro r τ2 ⟨z5, rfl, a1, a2, hR, hK⟩
      have d2 := d1.step hR hK
      replace w := w.pick hK
      clear hR hK l6 lM e61 d1 hlen
      have e61 := d2.kp.at e6 g6
      have l6 : ∀ τ', Sub τ2 τ' → lds τ' c6 0 3 = some [.int .i64 s.O, .int .i64 s.E, .int .i64 s.M] := fun τ' hs => lds_three (ld_of (hs _ _ e61) rfl) (ld_of (hs _ _ e61) rfl) (ld_of (hs _ _ e61) rfl)
      have lM : ld τ2 c6 (0 + 2) = some (.int .i64 s.M) := ld_of e61 rfl
      obtain ⟨q, rfl, vq, nq, gq⟩ := w.row h0c
      have hq6 : q ≠ c6 := ne_of nq e6
      have hq4 : q ≠ c4 := ne_of nq e4
      have hx := (trisAt_own vq).all h0c
      have hgk : cs.getD 0 cl0 = gc cs 0 := rfl
      rw [hgk, Nat.zero_mul] at hx
      have hc0 : (0 : Int) < (cs.length : Int) := by omega
      by_cases q0' : z5 = 0
      · generalize gc cs 0 = c at hx
        obtain ⟨ci, co, cv⟩ := c
        dsimp only at hx
        simp -implicitDefEqProofs (disch := omega) only [List.any_cons, List.any_nil, Nat.reduceEqDiff, List.map_cons, List.map_nil, Option.map_some, Option.map_none, List.nil_append, ↓reduceIte, vcu, ↓vcd, opK_some, h0, h1, h4, h6, h7, h8, hx, co34, Int.toNat_zero, Nat.zero_mul]
        refine r_lit el29 (out := #[.int .i64 ci, .int .i64 co, .int .i64 cv]) (by first | kernel_rfl | (simp -implicitDefEqProofs (disch := omega) only [List.any_cons, List.any_nil, Nat.reduceEqDiff, List.map_cons, List.map_nil, Option.map_some, Option.map_none, List.nil_append, ↓reduceIte, vcu, ↓vcd]; kernel_rfl)) (by rfl) fun eb τ6 n6' s6 v6 => ?_
        replace v6 : τ6 eb = some ⟨tris [⟨ci, co, cv⟩], false⟩ := v6
        refine r_pushC (g := q) (e := eb) (o := 0) (cs := cs) (ds := [⟨ci, co, cv⟩]) (m := 1) (len := cs.length) el29 (by omega) sl29 (by simp -implicitDefEqProofs (disch := omega) only [List.any_cons, List.any_nil, Nat.reduceEqDiff, List.map_cons, List.map_nil, Option.map_some, Option.map_none, List.nil_append, ↓reduceIte, vcu, ↓vcd, h7]) (s6 _ _ vq) rfl (by simp -implicitDefEqProofs (disch := omega) only [List.any_cons, List.any_nil, Nat.reduceEqDiff, List.map_cons, List.map_nil, Option.map_some, Option.map_none, List.nil_append, ↓reduceIte, vcu, ↓vcd]) (trisAt_own v6) rfl (by omega) fun gn τ7 n7 k7 v7 => ?_
        have d6 := d2.new s6
        have d7 := d6.put k7 gq nq
        have w7 : OwnY τ3 g τ7 (.slice (some ⟨gn, 0, none⟩) (cs.length + 1) 3) (cs ++ [⟨ci, co, cv⟩]) := .inr ⟨gn, by simp, v7, d6.fresh n7⟩
        have f6 := d7.kp.at e6 g6
        have l7 : lds τ7 c6 0 3 = some [.int .i64 s.O, .int .i64 s.E, .int .i64 s.M] := lds_three (ld_of f6 rfl) (ld_of f6 rfl) (ld_of f6 rfl)
        simp -implicitDefEqProofs (disch := omega) only [List.any_cons, List.any_nil, Nat.reduceEqDiff, List.map_cons, List.map_nil, Option.map_some, Option.map_none, List.nil_append, ↓reduceIte, vcu, ↓vcd, h0, h1, h4, h6, h8, l7, co24]
        refine r_sets (g := c4) (i := 0) (C := [.int .i64 0, .int .i64 0, .int .i64 0]) (by simp -implicitDefEqProofs (disch := omega) only [List.any_cons, List.any_nil, Nat.reduceEqDiff, List.map_cons, List.map_nil, Option.map_some, Option.map_none, List.nil_append, ↓reduceIte, vcu, ↓vcd, h4]) (by simp -implicitDefEqProofs (disch := omega) only [List.any_cons, List.any_nil, Nat.reduceEqDiff, List.map_cons, List.map_nil, Option.map_some, Option.map_none, List.nil_append, ↓reduceIte, vcu, ↓vcd, co24]; rfl) (by simp -implicitDefEqProofs (disch := omega) only [List.any_cons, List.any_nil, Nat.reduceEqDiff, List.map_cons, List.map_nil, Option.map_some, Option.map_none, List.nil_append, ↓reduceIte, vcu, ↓vcd]; rfl) (by simp -implicitDefEqProofs (disch := omega) only [List.any_cons, List.any_nil, Nat.reduceEqDiff, List.map_cons, List.map_nil, Option.map_some, Option.map_none, List.nil_append, ↓reduceIte, vcu, ↓vcd]; exact Nat.zero_lt_succ _) (d7.kp.at e4 g4) (by simp -implicitDefEqProofs (disch := omega) only [List.any_cons, List.any_nil, Nat.reduceEqDiff, List.map_cons, List.map_nil, Option.map_some, Option.map_none, List.nil_append, ↓reduceIte, vcu, ↓vcd]; exact Nat.le_refl _) fun τ9 k9 e9 => ?_
        replace e9 : τ9 c4 = some ⟨[.int .i64 s.O, .int .i64 s.E, .int .i64 s.M], false⟩ := e9
        simp -implicitDefEqProofs (disch := omega) only [List.any_cons, List.any_nil, Nat.reduceEqDiff, List.map_cons, List.map_nil, Option.map_some, Option.map_none, List.nil_append, ↓reduceIte, vcu, ↓vcd]
        exact fin _ _ _ _ _ (p' + 1 + 1) (by simp -implicitDefEqProofs (disch := omega) only [List.any_cons, List.any_nil, Nat.reduceEqDiff, List.map_cons, List.map_nil, Option.map_some, Option.map_none, List.nil_append, ↓reduceIte, vcu, ↓vcd]) (by simp -implicitDefEqProofs (disch := omega) only [List.any_cons, List.any_nil, Nat.reduceEqDiff, List.map_cons, List.map_nil, Option.map_some, Option.map_none, List.nil_append, ↓reduceIte, vcu, ↓vcd, h4]) (by simp; omega) w7 (by omega) d7 k9 e9
      by_cases q1' : z5 = 1
      · have hst := (tris_set cs 0 h0c s.M).2.2
        rw [Nat.zero_mul] at hst
        simp -implicitDefEqProofs (disch := omega) only [List.any_cons, List.any_nil, Nat.reduceEqDiff, List.map_cons, List.map_nil, Option.map_some, Option.map_none, List.nil_append, ↓reduceIte, vcu, ↓vcd, opK_some, h0, h1, h4, h6, h7, h8, lM, Int.toNat_zero, Nat.zero_mul]
        refine r_set (g := q) (i := 0 + 2) (by simp -implicitDefEqProofs (disch := omega) only [List.any_cons, List.any_nil, Nat.reduceEqDiff, List.map_cons, List.map_nil, Option.map_some, Option.map_none, List.nil_append, ↓reduceIte, vcu, ↓vcd, h7]) (by simp -implicitDefEqProofs (disch := omega) only [List.any_cons, List.any_nil, Nat.reduceEqDiff, List.map_cons, List.map_nil, Option.map_some, Option.map_none, List.nil_append, ↓reduceIte, vcu, ↓vcd]; rfl) co3 (by simp -implicitDefEqProofs (disch := omega) only [List.any_cons, List.any_nil, Nat.reduceEqDiff, List.map_cons, List.map_nil, Option.map_some, Option.map_none, List.nil_append, ↓reduceIte, vcu, ↓vcd]; rfl) vq (by rw [tris_length]; omega) fun τ7 k7 e7 => ?_
        simp -implicitDefEqProofs (disch := omega) only [List.any_cons, List.any_nil, Nat.reduceEqDiff, List.map_cons, List.map_nil, Option.map_some, Option.map_none, List.nil_append, ↓reduceIte, vcu, ↓vcd] at e7
        rw [hst] at e7
        have d7 := d2.put k7 gq nq
        have w7 : OwnY τ3 g τ7 (.slice (some ⟨q, 0, none⟩) cs.length 3) (cs.set 0 ⟨(cs.getD 0 cl0).i, (cs.getD 0 cl0).o, s.M⟩) := .inr ⟨q, by simp, e7, nq, gq⟩
        have f6 := d7.kp.at e6 g6
        have l7 : lds τ7 c6 0 3 = some [.int .i64 s.O, .int .i64 s.E, .int .i64 s.M] := lds_three (ld_of f6 rfl) (ld_of f6 rfl) (ld_of f6 rfl)
        simp -implicitDefEqProofs (disch := omega) only [List.any_cons, List.any_nil, Nat.reduceEqDiff, List.map_cons, List.map_nil, Option.map_some, Option.map_none, List.nil_append, ↓reduceIte, vcu, ↓vcd, h0, h1, h4, h6, h7, h8, l7, co24]
        refine r_sets (g := c4) (i := 0) (C := [.int .i64 0, .int .i64 0, .int .i64 0]) (by simp -implicitDefEqProofs (disch := omega) only [List.any_cons, List.any_nil, Nat.reduceEqDiff, List.map_cons, List.map_nil, Option.map_some, Option.map_none, List.nil_append, ↓reduceIte, vcu, ↓vcd, h4]) (by simp -implicitDefEqProofs (disch := omega) only [List.any_cons, List.any_nil, Nat.reduceEqDiff, List.map_cons, List.map_nil, Option.map_some, Option.map_none, List.nil_append, ↓reduceIte, vcu, ↓vcd, co24]; rfl) (by simp -implicitDefEqProofs (disch := omega) only [List.any_cons, List.any_nil, Nat.reduceEqDiff, List.map_cons, List.map_nil, Option.map_some, Option.map_none, List.nil_append, ↓reduceIte, vcu, ↓vcd]; rfl) (by simp -implicitDefEqProofs (disch := omega) only [List.any_cons, List.any_nil, Nat.reduceEqDiff, List.map_cons, List.map_nil, Option.map_some, Option.map_none, List.nil_append, ↓reduceIte, vcu, ↓vcd]; exact Nat.zero_lt_succ _) (d7.kp.at e4 g4) (by simp -implicitDefEqProofs (disch := omega) only [List.any_cons, List.any_nil, Nat.reduceEqDiff, List.map_cons, List.map_nil, Option.map_some, Option.map_none, List.nil_append, ↓reduceIte, vcu, ↓vcd]; exact Nat.le_refl _) fun τ9 k9 e9 => ?_
        replace e9 : τ9 c4 = some ⟨[.int .i64 s.O, .int .i64 s.E, .int .i64 s.M], false⟩ := e9
        simp -implicitDefEqProofs (disch := omega) only [List.any_cons, List.any_nil, Nat.reduceEqDiff, List.map_cons, List.map_nil, Option.map_some, Option.map_none, List.nil_append, ↓reduceIte, vcu, ↓vcd, h7]
        exact fin _ _ _ _ _ (p' + 1 + 1) (by simp -implicitDefEqProofs (disch := omega) only [List.any_cons, List.any_nil, Nat.reduceEqDiff, List.map_cons, List.map_nil, Option.map_some, Option.map_none, List.nil_append, ↓reduceIte, vcu, ↓vcd, h7]) (by simp -implicitDefEqProofs (disch := omega) only [List.any_cons, List.any_nil, Nat.reduceEqDiff, List.map_cons, List.map_nil, Option.map_some, Option.map_none, List.nil_append, ↓reduceIte, vcu, ↓vcd, h4]) (by simp; omega) w7 (by omega) d7 k9 e9
      · have hst := (tris_set cs 0 h0c (-1)).1
        rw [Nat.zero_mul] at hst
        simp -implicitDefEqProofs (disch := omega) only [List.any_cons, List.any_nil, Nat.reduceEqDiff, List.map_cons, List.map_nil, Option.map_some, Option.map_none, List.nil_append, ↓reduceIte, vcu, ↓vcd, opK_some, h0, h1, h4, h6, h7, h8, Int.toNat_zero, Nat.zero_mul]
        refine r_set (g := q) (i := 0 + 0) (by simp -implicitDefEqProofs (disch := omega) only [List.any_cons, List.any_nil, Nat.reduceEqDiff, List.map_cons, List.map_nil, Option.map_some, Option.map_none, List.nil_append, ↓reduceIte, vcu, ↓vcd, h7]) (by simp -implicitDefEqProofs (disch := omega) only [List.any_cons, List.any_nil, Nat.reduceEqDiff, List.map_cons, List.map_nil, Option.map_some, Option.map_none, List.nil_append, ↓reduceIte, vcu, ↓vcd]; rfl) co3 (by simp -implicitDefEqProofs (disch := omega) only [List.any_cons, List.any_nil, Nat.reduceEqDiff, List.map_cons, List.map_nil, Option.map_some, Option.map_none, List.nil_append, ↓reduceIte, vcu, ↓vcd]; rfl) vq (by rw [tris_length]; omega) fun τ7 k7 e7 => ?_
        simp -implicitDefEqProofs (disch := omega) only [List.any_cons, List.any_nil, Nat.reduceEqDiff, List.map_cons, List.map_nil, Option.map_some, Option.map_none, List.nil_append, ↓reduceIte, vcu, ↓vcd] at e7
        rw [Nat.add_zero, hst] at e7
        have d7 := d2.put k7 gq nq
        have w7 : OwnY τ3 g τ7 (.slice (some ⟨q, 0, none⟩) cs.length 3) (cs.set 0 ⟨-1, (cs.getD 0 cl0).o, (cs.getD 0 cl0).v⟩) := .inr ⟨q, by simp, e7, nq, gq⟩
        have f6 := d7.kp.at e6 g6
        have l7 : lds τ7 c6 0 3 = some [.int .i64 s.O, .int .i64 s.E, .int .i64 s.M] := lds_three (ld_of f6 rfl) (ld_of f6 rfl) (ld_of f6 rfl)
        simp -implicitDefEqProofs (disch := omega) only [List.any_cons, List.any_nil, Nat.reduceEqDiff, List.map_cons, List.map_nil, Option.map_some, Option.map_none, List.nil_append, ↓reduceIte, vcu, ↓vcd, h0, h1, h4, h6, h7, h8, l7, co24]
        refine r_sets (g := c4) (i := 0) (C := [.int .i64 0, .int .i64 0, .int .i64 0]) (by simp -implicitDefEqProofs (disch := omega) only [List.any_cons, List.any_nil, Nat.reduceEqDiff, List.map_cons, List.map_nil, Option.map_some, Option.map_none, List.nil_append, ↓reduceIte, vcu, ↓vcd, h4]) (by simp -implicitDefEqProofs (disch := omega) only [List.any_cons, List.any_nil, Nat.reduceEqDiff, List.map_cons, List.map_nil, Option.map_some, Option.map_none, List.nil_append, ↓reduceIte, vcu, ↓vcd, co24]; rfl) (by simp -implicitDefEqProofs (disch := omega) only [List.any_cons, List.any_nil, Nat.reduceEqDiff, List.map_cons, List.map_nil, Option.map_some, Option.map_none, List.nil_append, ↓reduceIte, vcu, ↓vcd]; rfl) (by simp -implicitDefEqProofs (disch := omega) only [List.any_cons, List.any_nil, Nat.reduceEqDiff, List.map_cons, List.map_nil, Option.map_some, Option.map_none, List.nil_append, ↓reduceIte, vcu, ↓vcd]; exact Nat.zero_lt_succ _) (d7.kp.at e4 g4) (by simp -implicitDefEqProofs (disch := omega) only [List.any_cons, List.any_nil, Nat.reduceEqDiff, List.map_cons, List.map_nil, Option.map_some, Option.map_none, List.nil_append, ↓reduceIte, vcu, ↓vcd]; exact Nat.le_refl _) fun τ9 k9 e9 => ?_
        replace e9 : τ9 c4 = some ⟨[.int .i64 s.O, .int .i64 s.E, .int .i64 s.M], false⟩ := e9
        simp -implicitDefEqProofs (disch := omega) only [List.any_cons, List.any_nil, Nat.reduceEqDiff, List.map_cons, List.map_nil, Option.map_some, Option.map_none, List.nil_append, ↓reduceIte, vcu, ↓vcd, h7]
        exact fin _ _ _ _ _ (p' + 1 + 1) (by simp -implicitDefEqProofs (disch := omega) only [List.any_cons, List.any_nil, Nat.reduceEqDiff, List.map_cons, List.map_nil, Option.map_some, Option.map_none, List.nil_append, ↓reduceIte, vcu, ↓vcd, h7]) (by simp -implicitDefEqProofs (disch := omega) only [List.any_cons, List.any_nil, Nat.reduceEqDiff, List.map_cons, List.map_nil, Option.map_some, Option.map_none, List.nil_append, ↓reduceIte, vcu, ↓vcd, h4]) (by simp; omega) w7 (by omega) d7 k9 e9
  | succ m =>
    have hm1 : (0 : Int) < ((m + 1 : Nat) : Int) := by omega
    have hm2 : ((m + 1 : Nat) : Int) - 1 = (m : Int) := by omega
    have hm3 : -9223372036854775808 ≤ ((m + 1 : Nat) : Int) - 1 ∧ ((m + 1 : Nat) : Int) - 1 ≤ 9223372036854775807 := by omega
    generalize ((m + 1 : Nat) : Int) = W at *
    simp -implicitDefEqProofs (disch := omega) only [List.any_cons, List.any_nil, Nat.reduceEqDiff, List.map_cons, List.map_nil, Option.map_some, Option.map_none, List.nil_append, ↓reduceIte, vcu, ↓vcd, h0, h1, h4, h6, h7, h8, h9]
    refine (pick_at β τ g h o bs p' L d.rd (by omega) (by omega)).mono ?_
    rintro r τ1 ⟨I, rfl, a1, a2, hR, hK⟩
    have d1 := d.step hR hK
    replace w := w.pick hK
    clear hR hK d
    simp -implicitDefEqProofs (disch := omega) only [List.any_cons, List.any_nil, Nat.reduceEqDiff, List.map_cons, List.map_nil, Option.map_some, Option.map_none, List.nil_append, ↓reduceIte, vcu, ↓vcd, opK_some, h0, h1, h4, h6, h7, h8, h9]
    refine (pick_at β τ1 g h o bs (p' + 1) L d1.rd (by omega) (by omega)).mono ?_
    rintro r τ2 ⟨O, rfl, a3, a4, hR, hK⟩
    have d2 := d1.step hR hK
    replace w := w.pick hK
    clear hR hK d1
    simp -implicitDefEqProofs (disch := omega) only [List.any_cons, List.any_nil, Nat.reduceEqDiff, List.map_cons, List.map_nil, Option.map_some, Option.map_none, List.nil_append, ↓reduceIte, vcu, ↓vcd, opK_some, h0, h1, h4, h6, h7, h8, h9]
    refine (pick_at β τ2 g h o bs (p' + 1 + 1) 6 d2.rd (by omega) (by omega)).mono ?_
    rintro r τ3' ⟨z, rfl, a5, a6, hR, hK⟩
    have d3 := d2.step hR hK
    replace w := w.pick hK
    clear hR hK d2
    have e61 := d3.kp.at e6 g6
    have l6 : lds τ3' c6 0 3 = some [.int .i64 s.O, .int .i64 s.E, .int .i64 s.M] := lds_three (ld_of e61 rfl) (ld_of e61 rfl) (ld_of e61 rfl)
    by_cases z0 : z = 0
    · simp -implicitDefEqProofs (disch := omega) only [List.any_cons, List.any_nil, Nat.reduceEqDiff, List.map_cons, List.map_nil, Option.map_some, Option.map_none, List.nil_append, ↓reduceIte, vcu, ↓vcd, opK_some, h0, h1, h4, h6, h7, h8, h9, l6, co24]
      refine (specDrop_calls τ3' s v cs I w.tris (by omega)).mono ?_
      rintro _ τ4 ⟨x, rfl, s4, w4⟩
      have d4 := d3.new s4
      have wx := d3.own w4
      cases dropOk s cs I with
      | true =>
        simp -implicitDefEqProofs (disch := omega) only [List.any_cons, List.any_nil, Nat.reduceEqDiff, List.map_cons, List.map_nil, Option.map_some, Option.map_none, List.nil_append, ↓reduceIte, vcu, ↓vcd, opK_some, List.getElem?_toArray, List.getElem?_cons_zero, List.getElem?_cons_succ, h0, h1, h4, h6, h7, h8, h9, hm2]
        exact ⟨⟨trivial, trivial, trivial, trivial, trivial, trivial⟩, m, by omega, x, _, _, rfl, rfl, wx, drL_len, by omega, by omega, d4⟩
      | false =>
        simp -implicitDefEqProofs (disch := omega) only [List.any_cons, List.any_nil, Nat.reduceEqDiff, List.map_cons, List.map_nil, Option.map_some, Option.map_none, List.nil_append, ↓reduceIte, vcu, ↓vcd, opK_some, List.getElem?_toArray, List.getElem?_cons_zero, List.getElem?_cons_succ, h0, h1, h4, h6, h7, h8, h9, hm2]
        exact ⟨⟨trivial, trivial, trivial, trivial, trivial, trivial⟩, m, by omega, v, _, _, rfl, rfl, w.sub s4, hl13, by omega, by omega, d4⟩
    by_cases z12 : z = 1 ∨ z = 2
    · have key := specFree_calls (w0 := w0) τ3' s v cs I O w.tris (by omega)
      rcases z12 with rfl | rfl
      · simp -implicitDefEqProofs (disch := omega) only [List.any_cons, List.any_nil, Nat.reduceEqDiff, List.map_cons, List.map_nil, Option.map_some, Option.map_none, List.nil_append, ↓reduceIte, vcu, ↓vcd, opK_some, h0, h1, h4, h6, h7, h8, h9, l6, co24]
        refine key.mono ?_
        rintro vf τ4 ⟨s4, wf⟩
        have d4 := d3.new s4
        have w4 := w.sub s4
        have hlf := ownI_lenD wf
        by_cases hf : 0 < (freeV s cs I O).length
        case neg =>
          have hf0 : ¬ (0 : Int) < ((freeV s cs I O).length : Int) := by omega
          simp -implicitDefEqProofs (disch := omega) only [List.any_cons, List.any_nil, Nat.reduceEqDiff, List.map_cons, List.map_nil, Option.map_some, Option.map_none, List.nil_append, ↓reduceIte, vcu, ↓vcd, opK_some, hlf, h0, h1, h4, h6, h7, h8, h9, hm2]
          exact ⟨⟨trivial, trivial, trivial, trivial, trivial, trivial⟩, m, by omega, v, _, _, rfl, rfl, w4, hl13, by omega, by omega, d4⟩
        have hl12 := (free_CV hf).len
        have hS5 := freeV_length s cs I O (free_CV hf).1
        obtain ⟨gf, rfl, vf4, nf⟩ := rowI_D wf hf
        have ngf := (d3.fresh nf).2
        have hf0 : (0 : Int) < ((freeV s cs I O).length : Int) := by omega
        generalize freeV s cs I O = fr at *
        simp -implicitDefEqProofs (disch := omega) only [List.any_cons, List.any_nil, Nat.reduceEqDiff, List.map_cons, List.map_nil, Option.map_some, Option.map_none, List.nil_append, ↓reduceIte, vcu, ↓vcd, opK_some, hlf, h0, h1, h4, h6, h7, h8, h9]
        refine (pick_at β τ4 g h o bs (p' + 1 + 1 + 1) (fr.length : Int) d4.rd (by omega) (by omega)).mono ?_
        rintro r τ5 ⟨y, rfl, a7, a8, hR, hK⟩
        have d5 := d4.step hR hK
        have w5 := w4.pick hK
        have hx := intsAt_own (hK.at vf4 ngf) y.toNat (by omega)
        clear hR hK
        generalize fr.getD y.toNat 0 = Y at hx
        simp -implicitDefEqProofs (disch := omega) only [List.any_cons, List.any_nil, Nat.reduceEqDiff, List.map_cons, List.map_nil, Option.map_some, Option.map_none, List.nil_append, ↓reduceIte, vcu, ↓vcd, opK_some, h0, h1, h4, h6, h7, h8, h9, hx, Nat.mul_one]
        rw [r_build]
        refine ⟨(_, #[.int .i64 I, .int .i64 O, .int .i64 Y]), ⟨ze34, by simp -implicitDefEqProofs (disch := omega) only [List.any_cons, List.any_nil, Nat.reduceEqDiff, List.map_cons, List.map_nil, Option.map_some, Option.map_none, List.nil_append, ↓reduceIte, vcu, ↓vcd]; kernel_rfl⟩, ?_⟩
        simp -implicitDefEqProofs (disch := omega) only [List.any_cons, List.any_nil, Nat.reduceEqDiff, List.map_cons, List.map_nil, Option.map_some, Option.map_none, List.nil_append, ↓reduceIte, vcu, ↓vcd]
        refine r_lit el29 (out := #[.int .i64 I, .int .i64 O, .int .i64 Y]) (by first | kernel_rfl | (simp -implicitDefEqProofs (disch := omega) only [List.any_cons, List.any_nil, Nat.reduceEqDiff, List.map_cons, List.map_nil, Option.map_some, Option.map_none, List.nil_append, ↓reduceIte, vcu, ↓vcd]; kernel_rfl)) (by rfl) fun eb τ6 n6' s6 v6 => ?_
        replace v6 : τ6 eb = some ⟨tris [⟨I, O, Y⟩], false⟩ := v6
        have d6 := d5.new s6
        have w6 := w5.sub s6
        rcases w6 with ⟨rfl, rfl⟩ | ⟨q, rfl, vq, nq, gq⟩
        · refine r_pushC_nil (e := eb) (o := 0) (ds := [⟨I, O, Y⟩]) (m := 1) el29 (by omega) sl29 (by simp -implicitDefEqProofs (disch := omega) only [List.any_cons, List.any_nil, Nat.reduceEqDiff, List.map_cons, List.map_nil, Option.map_some, Option.map_none, List.nil_append, ↓reduceIte, vcu, ↓vcd, h7]) (by simp -implicitDefEqProofs (disch := omega) only [List.any_cons, List.any_nil, Nat.reduceEqDiff, List.map_cons, List.map_nil, Option.map_some, Option.map_none, List.nil_append, ↓reduceIte, vcu, ↓vcd]) (trisAt_own v6) rfl (by omega) fun gn τ7 n7 k7 v7 => ?_
          have d7 := d6.new k7
          simp -implicitDefEqProofs (disch := omega) only [List.any_cons, List.any_nil, Nat.reduceEqDiff, List.map_cons, List.map_nil, Option.map_some, Option.map_none, List.nil_append, ↓reduceIte, vcu, ↓vcd, h0, h1, h4, h6, h8, h9, hm2]
          exact ⟨⟨trivial, trivial, trivial, trivial, trivial, trivial⟩, m, by omega, _, [⟨I, O, Y⟩], _, rfl, rfl, .inr ⟨gn, rfl, v7, d6.fresh n7⟩, by simp, by omega, by omega, d7⟩
        · refine r_pushC (g := q) (e := eb) (o := 0) (cs := cs) (ds := [⟨I, O, Y⟩]) (m := 1) (len := cs.length) el29 (by omega) sl29 (by simp -implicitDefEqProofs (disch := omega) only [List.any_cons, List.any_nil, Nat.reduceEqDiff, List.map_cons, List.map_nil, Option.map_some, Option.map_none, List.nil_append, ↓reduceIte, vcu, ↓vcd, h7]) vq rfl (by simp -implicitDefEqProofs (disch := omega) only [List.any_cons, List.any_nil, Nat.reduceEqDiff, List.map_cons, List.map_nil, Option.map_some, Option.map_none, List.nil_append, ↓reduceIte, vcu, ↓vcd]) (trisAt_own v6) rfl (by omega) fun gn τ7 n7 k7 v7 => ?_
          have d7 := d6.put k7 gq nq
          simp -implicitDefEqProofs (disch := omega) only [List.any_cons, List.any_nil, Nat.reduceEqDiff, List.map_cons, List.map_nil, Option.map_some, Option.map_none, List.nil_append, ↓reduceIte, vcu, ↓vcd, h0, h1, h4, h6, h8, h9, hm2]
          exact ⟨⟨trivial, trivial, trivial, trivial, trivial, trivial⟩, m, by omega, _, cs ++ [⟨I, O, Y⟩], _, rfl, rfl, .inr ⟨gn, by simp, v7, d6.fresh n7⟩, by simp; omega, by omega, by omega, d7⟩
      · simp -implicitDefEqProofs (disch := omega) only [List.any_cons, List.any_nil, Nat.reduceEqDiff, List.map_cons, List.map_nil, Option.map_some, Option.map_none, List.nil_append, ↓reduceIte, vcu, ↓vcd, opK_some, h0, h1, h4, h6, h7, h8, h9, l6, co24]
        refine key.mono ?_
        rintro vf τ4 ⟨s4, wf⟩
        have d4 := d3.new s4
        have w4 := w.sub s4
        have hlf := ownI_lenD wf
        by_cases hf : 0 < (freeV s cs I O).length
        case neg =>
          have hf0 : ¬ (0 : Int) < ((freeV s cs I O).length : Int) := by omega
          simp -implicitDefEqProofs (disch := omega) only [List.any_cons, List.any_nil, Nat.reduceEqDiff, List.map_cons, List.map_nil, Option.map_some, Option.map_none, List.nil_append, ↓reduceIte, vcu, ↓vcd, opK_some, hlf, h0, h1, h4, h6, h7, h8, h9, hm2]
          exact ⟨⟨trivial, trivial, trivial, trivial, trivial, trivial⟩, m, by omega, v, _, _, rfl, rfl, w4, hl13, by omega, by omega, d4⟩
        have hl12 := (free_CV hf).len
        have hS5 := freeV_length s cs I O (free_CV hf).1
        obtain ⟨gf, rfl, vf4, nf⟩ := rowI_D wf hf
        have ngf := (d3.fresh nf).2
        have hf0 : (0 : Int) < ((freeV s cs I O).length : Int) := by omega
        generalize freeV s cs I O = fr at *
        simp -implicitDefEqProofs (disch := omega) only [List.any_cons, List.any_nil, Nat.reduceEqDiff, List.map_cons, List.map_nil, Option.map_some, Option.map_none, List.nil_append, ↓reduceIte, vcu, ↓vcd, opK_some, hlf, h0, h1, h4, h6, h7, h8, h9]
        refine (pick_at β τ4 g h o bs (p' + 1 + 1 + 1) (fr.length : Int) d4.rd (by omega) (by omega)).mono ?_
        rintro r τ5 ⟨y, rfl, a7, a8, hR, hK⟩
        have d5 := d4.step hR hK
        have w5 := w4.pick hK
        have hx := intsAt_own (hK.at vf4 ngf) y.toNat (by omega)
        clear hR hK
        generalize fr.getD y.toNat 0 = Y at hx
        simp -implicitDefEqProofs (disch := omega) only [List.any_cons, List.any_nil, Nat.reduceEqDiff, List.map_cons, List.map_nil, Option.map_some, Option.map_none, List.nil_append, ↓reduceIte, vcu, ↓vcd, opK_some, h0, h1, h4, h6, h7, h8, h9, hx, Nat.mul_one]
        rw [r_build]
        refine ⟨(_, #[.int .i64 I, .int .i64 O, .int .i64 Y]), ⟨ze34, by simp -implicitDefEqProofs (disch := omega) only [List.any_cons, List.any_nil, Nat.reduceEqDiff, List.map_cons, List.map_nil, Option.map_some, Option.map_none, List.nil_append, ↓reduceIte, vcu, ↓vcd]; kernel_rfl⟩, ?_⟩
        simp -implicitDefEqProofs (disch := omega) only [List.any_cons, List.any_nil, Nat.reduceEqDiff, List.map_cons, List.map_nil, Option.map_some, Option.map_none, List.nil_append, ↓reduceIte, vcu, ↓vcd]
        refine r_lit el29 (out := #[.int .i64 I, .int .i64 O, .int .i64 Y]) (by first | kernel_rfl | (simp -implicitDefEqProofs (disch := omega) only [List.any_cons, List.any_nil, Nat.reduceEqDiff, List.map_cons, List.map_nil, Option.map_some, Option.map_none, List.nil_append, ↓reduceIte, vcu, ↓vcd]; kernel_rfl)) (by rfl) fun eb τ6 n6' s6 v6 => ?_
        replace v6 : τ6 eb = some ⟨tris [⟨I, O, Y⟩], false⟩ := v6
        have d6 := d5.new s6
        have w6 := w5.sub s6
        rcases w6 with ⟨rfl, rfl⟩ | ⟨q, rfl, vq, nq, gq⟩
        · refine r_pushC_nil (e := eb) (o := 0) (ds := [⟨I, O, Y⟩]) (m := 1) el29 (by omega) sl29 (by simp -implicitDefEqProofs (disch := omega) only [List.any_cons, List.any_nil, Nat.reduceEqDiff, List.map_cons, List.map_nil, Option.map_some, Option.map_none, List.nil_append, ↓reduceIte, vcu, ↓vcd, h7]) (by simp -implicitDefEqProofs (disch := omega) only [List.any_cons, List.any_nil, Nat.reduceEqDiff, List.map_cons, List.map_nil, Option.map_some, Option.map_none, List.nil_append, ↓reduceIte, vcu, ↓vcd]) (trisAt_own v6) rfl (by omega) fun gn τ7 n7 k7 v7 => ?_
          have d7 := d6.new k7
          simp -implicitDefEqProofs (disch := omega) only [List.any_cons, List.any_nil, Nat.reduceEqDiff, List.map_cons, List.map_nil, Option.map_some, Option.map_none, List.nil_append, ↓reduceIte, vcu, ↓vcd, h0, h1, h4, h6, h8, h9, hm2]
          exact ⟨⟨trivial, trivial, trivial, trivial, trivial, trivial⟩, m, by omega, _, [⟨I, O, Y⟩], _, rfl, rfl, .inr ⟨gn, rfl, v7, d6.fresh n7⟩, by simp, by omega, by omega, d7⟩
        · refine r_pushC (g := q) (e := eb) (o := 0) (cs := cs) (ds := [⟨I, O, Y⟩]) (m := 1) (len := cs.length) el29 (by omega) sl29 (by simp -implicitDefEqProofs (disch := omega) only [List.any_cons, List.any_nil, Nat.reduceEqDiff, List.map_cons, List.map_nil, Option.map_some, Option.map_none, List.nil_append, ↓reduceIte, vcu, ↓vcd, h7]) vq rfl (by simp -implicitDefEqProofs (disch := omega) only [List.any_cons, List.any_nil, Nat.reduceEqDiff, List.map_cons, List.map_nil, Option.map_some, Option.map_none, List.nil_append, ↓reduceIte, vcu, ↓vcd]) (trisAt_own v6) rfl (by omega) fun gn τ7 n7 k7 v7 => ?_
          have d7 := d6.put k7 gq nq
          simp -implicitDefEqProofs (disch := omega) only [List.any_cons, List.any_nil, Nat.reduceEqDiff, List.map_cons, List.map_nil, Option.map_some, Option.map_none, List.nil_append, ↓reduceIte, vcu, ↓vcd, h0, h1, h4, h6, h8, h9, hm2]
          exact ⟨⟨trivial, trivial, trivial, trivial, trivial, trivial⟩, m, by omega, _, cs ++ [⟨I, O, Y⟩], _, rfl, rfl, .inr ⟨gn, by simp, v7, d6.fresh n7⟩, by simp; omega, by omega, by omega, d7⟩
    · have z1 : ¬ z = 1 := fun hh => z12 (.inl hh)
      have z2 : ¬ z = 2 := fun hh => z12 (.inr hh)
      simp -implicitDefEqProofs (disch := omega) only [List.any_cons, List.any_nil, Nat.reduceEqDiff, List.map_cons, List.map_nil, Option.map_some, Option.map_none, List.nil_append, ↓reduceIte, vcu, ↓vcd, opK_some, h0, h1, h4, h6, h7, h8, h9, l6, co24]
      refine (specMove_calls τ3' s v cs I O w.tris (by omega)).mono ?_
      rintro _ τ4 ⟨x, rfl, s4, w4⟩
      have d4 := d3.new s4
      have wx := d3.own w4
      by_cases hok : mvOk s cs I O
      · rw [decide_eq_true hok]
        simp -implicitDefEqProofs (disch := omega) only [List.any_cons, List.any_nil, Nat.reduceEqDiff, List.map_cons, List.map_nil, Option.map_some, Option.map_none, List.nil_append, ↓reduceIte, vcu, ↓vcd, opK_some, List.getElem?_toArray, List.getElem?_cons_zero, List.getElem?_cons_succ, h0, h1, h4, h6, h7, h8, h9, hm2]
        exact ⟨⟨trivial, trivial, trivial, trivial, trivial, trivial⟩, m, by omega, x, _, _, rfl, rfl, wx, mvL_len13 hl13, by omega, by omega, d4⟩
      · rw [decide_eq_false hok]
        simp -implicitDefEqProofs (disch := omega) only [List.any_cons, List.any_nil, Nat.reduceEqDiff, List.map_cons, List.map_nil, Option.map_some, Option.map_none, List.nil_append, ↓reduceIte, vcu, ↓vcd, opK_some, List.getElem?_toArray, List.getElem?_cons_zero, List.getElem?_cons_succ, h0, h1, h4, h6, h7, h8, h9, hm2]
        exact ⟨⟨trivial, trivial, trivial, trivial, trivial, trivial⟩, m, by omega, v, _, _, rfl, rfl, w.sub s4, hl13, by omega, by omega, d4⟩
end Go.Proofs.Ytphacjkogompoaa

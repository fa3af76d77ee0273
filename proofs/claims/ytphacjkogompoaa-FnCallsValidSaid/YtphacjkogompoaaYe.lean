/- Lines that are asked for: draws. -/
import Derived.Test.YtphacjkogompoaaYd
set_option linter.unusedSimpArgs false
set_option linter.unusedVariables false
namespace Go.Proofs.Ytphacjkogompoaa
open Go Go.Abs Go.RowKit Go.Clos
variable {w0 : World}

/-- all but the reader and a cell of one's own -/
theorem less2 {g c : Nat} {σ τ : AHeap} (h : ∀ k ob, k ≠ g → k ≠ c → σ k = some ob → τ k = some ob) : Sub ((σ.upd g none).upd c none) τ := fun k ob e => by
  by_cases h1 : k = c
  · subst h1; rw [AHeap.upd_same] at e; cases e
  · rw [AHeap.upd_ne _ _ h1] at e
    by_cases h2 : k = g
    · subst h2; rw [AHeap.upd_same] at e; cases e
    · rw [AHeap.upd_ne _ _ h2] at e; exact h k ob h2 h1 e
theorem specBusy_calls (σ : AHeap) (v : Value) (cs : List Cl) (I O : Int) (hv : Tris σ v cs) (hl : cs.length ≤ 1048576) :
    ACall Try.prog w0 86 [v, .int .i64 I, .int .i64 O] σ fun r σ' => r = .bool (decide (Busy cs I O)) ∧ σ' = σ :=
  ACall.tris_quiet (pre := []) (post := [_, _]) (by kernel_rfl) hv fun σ1 h o _ hg => specBusy_at σ1 h o cs I O hg hl
theorem fin_cttt {P : Program} {fn : Func} {R : Value → AHeap → Prop} {a : AFrame} {σ : AHeap} {t u x y : Nat} {ty : TypeId} {v : Value} (h : fn.results = #[.cell t ty, .tmp u, .tmp x, .tmp y]) (σ'' : AHeap) (hs : Sub σ'' σ) (hv : aload P σ ty (a t) = some v) (hr : R (.tuple #[v, a u, a x, a y]) σ'') : finC P fn R a σ :=
  ⟨[v, a u, a x, a y], σ'', by simp [h, rvals, hv], hs, hr⟩
theorem fin_ctt {P : Program} {fn : Func} {R : Value → AHeap → Prop} {a : AFrame} {σ : AHeap} {t u x : Nat} {ty : TypeId} {v : Value} (h : fn.results = #[.cell t ty, .tmp u, .tmp x]) (σ'' : AHeap) (hs : Sub σ'' σ) (hv : aload P σ ty (a t) = some v) (hr : R (.tuple #[v, a u, a x]) σ'') : finC P fn R a σ :=
  ⟨[v, a u, a x], σ'', by simp [h, rvals, hv], hs, hr⟩

set_option maxRecDepth 8000 in
set_option maxHeartbeats 1600000 in
theorem asked_draw (β σ : AHeap) (g h o : Nat) (bs : List Int) (p n : Int) (hr : Rd β σ g h o bs p) (hp : 0 ≤ p ∧ p ≤ 1000) (hn : 1 ≤ n ∧ n ≤ 100) :
    ACall Try.prog w0 76 [.pointer (some ⟨g, 0, none⟩), .int .i64 n] σ fun r σ' => ∃ (s : Sp) (v : Value) (cs : List Cl) (I O : Int), r = .tuple #[.agg #[.int .i64 s.O, .int .i64 s.E, .int .i64 s.M], v, .int .i64 I, .int .i64 O] ∧ Drawn s ∧ cs.length ≤ 14 ∧ OwnY σ g σ' v cs ∧ Kept g σ σ' ∧ Sub β σ' ∧ (0 ≤ I ∧ I ≤ 40) ∧ (-40 ≤ O ∧ O ≤ 40) := by
  refine acall_goc mixed Try.func76 rfl goodc76 fun pr => ?_
  simp -implicitDefEqProofs (disch := omega) only [List.any_cons, List.any_nil, Nat.reduceEqDiff, List.map_cons, List.map_nil, Option.map_some, Option.map_none, List.nil_append, ↓reduceIte, vcu, ↓vcd]
  refine r_new ze24 fun c4 τ1 n4 s1 e4 => ?_
  replace e4 : τ1 c4 = some ⟨[.int .i64 0, .int .i64 0, .int .i64 0], false⟩ := e4
  have d1 := (DS.start hr).new s1
  obtain ⟨n4, g4⟩ := (DS.start hr).fresh n4
  clear s1
  simp -implicitDefEqProofs (disch := omega) only [List.any_cons, List.any_nil, Nat.reduceEqDiff, List.map_cons, List.map_nil, Option.map_some, Option.map_none, List.nil_append, ↓reduceIte, vcu, ↓vcd]
  refine (calls_draw β τ1 g h o bs p n d1.rd (by omega) (by omega)).mono ?_
  rintro _ τ2 ⟨s, v, cs, p2, rfl, hD, hl14, w, hp1, hp2, ds⟩
  have d2 := d1.on ds
  have e41 := e4
  replace e4 := ds.kp.at e4 g4
  clear ds
  simp -implicitDefEqProofs (disch := omega) only [List.any_cons, List.any_nil, Nat.reduceEqDiff, List.map_cons, List.map_nil, Option.map_some, Option.map_none, List.nil_append, ↓reduceIte, vcu, ↓vcd, opK_some, List.getElem?_toArray, List.getElem?_cons_zero, List.getElem?_cons_succ]
  refine r_local (cs := #[.int .i64 s.O, .int .i64 s.E, .int .i64 s.M]) ze24 (by decide) (by simp -implicitDefEqProofs (disch := omega) only [List.any_cons, List.any_nil, Nat.reduceEqDiff, List.map_cons, List.map_nil, Option.map_some, Option.map_none, List.nil_append, ↓reduceIte, vcu, ↓vcd]) (by rw [co24]; rfl) rfl rfl (Nat.zero_lt_succ _) fun c8 τ3 n8 s3 e8 => ?_
  replace e8 : τ3 c8 = some ⟨[.int .i64 s.O, .int .i64 s.E, .int .i64 s.M], false⟩ := e8
  have d3 := d2.new s3
  have c48 : c8 ≠ c4 := ne_of n8 e4
  obtain ⟨n8, g8⟩ := d2.fresh n8
  replace e4 := s3 _ _ e4
  replace w := w.sub s3
  have hLn := hD.lines
  have lO : ld τ3 c8 (0 + 0) = some (.int .i64 s.O) := ld_of e8 rfl
  have lE : ld τ3 c8 (0 + 1) = some (.int .i64 s.E) := ld_of e8 rfl
  clear s3 d2
  simp -implicitDefEqProofs (disch := omega) only [List.any_cons, List.any_nil, Nat.reduceEqDiff, List.map_cons, List.map_nil, Option.map_some, Option.map_none, List.nil_append, ↓reduceIte, vcu, ↓vcd, lO, lE]
  have hL1 : 1 ≤ max (s.O * s.E) 1 ∧ max (s.O * s.E) 1 ≤ 20 := by omega
  generalize max (s.O * s.E) 1 = L at *
  refine (pick_at β τ3 g h o bs p2 L d3.rd (by omega) (by omega)).mono ?_
  rintro r τ4 ⟨I0, rfl, a1, a2, hR, hK⟩
  have d4 := d3.step hR hK
  replace e4 := hK.at e4 g4
  replace e8 := hK.at e8 g8
  replace w := w.pick hK
  clear hR hK d3 lO lE
  simp -implicitDefEqProofs (disch := omega) only [List.any_cons, List.any_nil, Nat.reduceEqDiff, List.map_cons, List.map_nil, Option.map_some, Option.map_none, List.nil_append, ↓reduceIte, vcu, ↓vcd, opK_some]
  refine (pick_at β τ4 g h o bs (p2 + 1) L d4.rd (by omega) (by omega)).mono ?_
  rintro r τ5 ⟨O0, rfl, a3, a4, hR, hK⟩
  have d5 := d4.step hR hK
  replace e4 := hK.at e4 g4
  replace e8 := hK.at e8 g8
  replace w := w.pick hK
  clear hR hK d4
  simp -implicitDefEqProofs (disch := omega) only [List.any_cons, List.any_nil, Nat.reduceEqDiff, List.map_cons, List.map_nil, Option.map_some, Option.map_none, List.nil_append, ↓reduceIte, vcu, ↓vcd, opK_some]
  refine acodeB_monoY (Q' := fun e a' τ' => e = .exit 0 ∧ τ' = τ5 ∧ (a' 0 = .pointer (some ⟨g, 0, none⟩) ∧ a' 4 = .pointer (some ⟨c4, 0, none⟩) ∧ a' 8 = .pointer (some ⟨c8, 0, none⟩) ∧ a' 9 = v ∧ a' 10 = .int .i64 L ∧ a' 12 = .int .i64 O0) ∧ ∃ I : Int, a' 11 = .int .i64 I ∧ 0 ≤ I ∧ I < L)
    (vc_loop_c mixed (by kernel_rfl) [0, 4, 8, 9, 10, 12] (fun m a τ' => ∃ (k : Nat) (I : Int), m + k = 6 ∧ a 13 = .int .i64 (k : Int) ∧ a 11 = .int .i64 I ∧ 0 ≤ I ∧ I < L ∧ τ' = τ5) 6 ⟨0, I0, by simp, rfl, rfl, a1, a2, rfl⟩ ?_) ?_
  · rintro m a τ hc ⟨k, I, hk, h13, h11, b1, b2, e5⟩
    subst e5
    simp -implicitDefEqProofs (disch := omega) only [List.any_cons, List.any_nil, Nat.reduceEqDiff, List.map_cons, List.map_nil, Option.map_some, Option.map_none, List.nil_append, ↓reduceIte, vcu, ↓vcd] at hc
    obtain ⟨h0, h4, h8, h9, h10, h12, -⟩ := hc
    have hb := specBusy_calls (w0 := w0) τ v cs I (-1) w.tris (by omega)
    have hstep : 0 ≤ (I + 1) % L ∧ (I + 1) % L < L := ⟨Int.emod_nonneg _ (by omega), Int.emod_lt_of_pos _ (by omega)⟩
    by_cases hk6 : k < 6
    · simp -implicitDefEqProofs (disch := omega) only [List.any_cons, List.any_nil, Nat.reduceEqDiff, List.map_cons, List.map_nil, Option.map_some, Option.map_none, List.nil_append, ↓reduceIte, vcu, ↓vcd, h0, h4, h8, h9, h10, h11, h12, h13]
      refine hb.mono ?_
      rintro r _ ⟨rfl, rfl⟩
      by_cases hB : Busy cs I (-1)
      · rw [decide_eq_true hB]
        simp -implicitDefEqProofs (disch := omega) only [List.any_cons, List.any_nil, Nat.reduceEqDiff, List.map_cons, List.map_nil, Option.map_some, Option.map_none, List.nil_append, ↓reduceIte, vcu, ↓vcd, opK_some, h0, h4, h8, h9, h10, h11, h12, h13]
        exact ⟨⟨trivial, trivial, trivial, trivial, trivial, trivial, trivial⟩, m - 1, by omega, k + 1, _, by omega, by simp, rfl, hstep.1, hstep.2, trivial⟩
      · rw [decide_eq_false hB]
        simp -implicitDefEqProofs (disch := omega) only [List.any_cons, List.any_nil, Nat.reduceEqDiff, List.map_cons, List.map_nil, Option.map_some, Option.map_none, List.nil_append, ↓reduceIte, vcu, ↓vcd, opK_some, h0, h4, h8, h9, h10, h11, h12, h13]
        exact ⟨trivial, trivial, ⟨trivial, trivial, trivial, trivial, trivial, trivial⟩, I, rfl, b1, b2⟩
    · simp -implicitDefEqProofs (disch := omega) only [List.any_cons, List.any_nil, Nat.reduceEqDiff, List.map_cons, List.map_nil, Option.map_some, Option.map_none, List.nil_append, ↓reduceIte, vcu, ↓vcd, h0, h4, h8, h9, h10, h11, h12, h13]
      exact ⟨trivial, trivial, ⟨trivial, trivial, trivial, trivial, trivial, trivial⟩, I, rfl, b1, b2⟩
  clear a1 a2
  rintro _ a _ ⟨rfl, rfl, ⟨h0, h4, h8, h9, h10, h12⟩, I, h11, b1, b2⟩
  rename_i τ5
  simp -implicitDefEqProofs (disch := omega) only [List.any_cons, List.any_nil, Nat.reduceEqDiff, List.map_cons, List.map_nil, Option.map_some, Option.map_none, List.nil_append, ↓reduceIte, vcu, ↓vcd, h0, h4, h8, h9, h10, h11, h12]
  refine acodeB_monoY (Q' := fun e a' τ' => e = .exit 2 ∧ τ' = τ5 ∧ (a' 0 = .pointer (some ⟨g, 0, none⟩) ∧ a' 4 = .pointer (some ⟨c4, 0, none⟩) ∧ a' 8 = .pointer (some ⟨c8, 0, none⟩) ∧ a' 9 = v ∧ a' 10 = .int .i64 L ∧ a' 11 = .int .i64 I) ∧ ∃ O : Int, a' 12 = .int .i64 O ∧ 0 ≤ O ∧ O < L)
    (vc_loop_c mixed (by kernel_rfl) [0, 4, 8, 9, 10, 11] (fun m a τ' => ∃ (k : Nat) (O : Int), m + k = 6 ∧ a 14 = .int .i64 (k : Int) ∧ a 12 = .int .i64 O ∧ 0 ≤ O ∧ O < L ∧ τ' = τ5) 6 ⟨0, O0, by simp, rfl, h12, a3, a4, rfl⟩ ?_) ?_
  · clear h12
    rintro m a1 τ hc ⟨k, O, hk, h14, h12, b3, b4, e5⟩
    subst e5
    simp -implicitDefEqProofs (disch := omega) only [List.any_cons, List.any_nil, Nat.reduceEqDiff, List.map_cons, List.map_nil, Option.map_some, Option.map_none, List.nil_append, ↓reduceIte, vcu, ↓vcd, h0, h4, h8, h9, h10, h11] at hc
    obtain ⟨q0, q4, q8, q9, q10, q11, -⟩ := hc
    have hb := specBusy_calls (w0 := w0) τ v cs (-1) O w.tris (by omega)
    have hstep : 0 ≤ (O + 1) % L ∧ (O + 1) % L < L := ⟨Int.emod_nonneg _ (by omega), Int.emod_lt_of_pos _ (by omega)⟩
    by_cases hk6 : k < 6
    · simp -implicitDefEqProofs (disch := omega) only [List.any_cons, List.any_nil, Nat.reduceEqDiff, List.map_cons, List.map_nil, Option.map_some, Option.map_none, List.nil_append, ↓reduceIte, vcu, ↓vcd, q0, q4, q8, q9, q10, q11, h12, h14]
      refine hb.mono ?_
      rintro r _ ⟨rfl, rfl⟩
      by_cases hB : Busy cs (-1) O
      · rw [decide_eq_true hB]
        simp -implicitDefEqProofs (disch := omega) only [List.any_cons, List.any_nil, Nat.reduceEqDiff, List.map_cons, List.map_nil, Option.map_some, Option.map_none, List.nil_append, ↓reduceIte, vcu, ↓vcd, opK_some, q0, q4, q8, q9, q10, q11, h12, h14, h0, h4, h8, h9, h10, h11]
        exact ⟨⟨trivial, trivial, trivial, trivial, trivial, trivial, trivial⟩, m - 1, by omega, k + 1, _, by omega, by simp, rfl, hstep.1, hstep.2, trivial⟩
      · rw [decide_eq_false hB]
        simp -implicitDefEqProofs (disch := omega) only [List.any_cons, List.any_nil, Nat.reduceEqDiff, List.map_cons, List.map_nil, Option.map_some, Option.map_none, List.nil_append, ↓reduceIte, vcu, ↓vcd, opK_some, q0, q4, q8, q9, q10, q11, h12, h14]
        exact ⟨trivial, trivial, ⟨trivial, trivial, trivial, trivial, trivial, trivial⟩, O, rfl, b3, b4⟩
    · simp -implicitDefEqProofs (disch := omega) only [List.any_cons, List.any_nil, Nat.reduceEqDiff, List.map_cons, List.map_nil, Option.map_some, Option.map_none, List.nil_append, ↓reduceIte, vcu, ↓vcd, q0, q4, q8, q9, q10, q11, h12, h14]
      exact ⟨trivial, trivial, ⟨trivial, trivial, trivial, trivial, trivial, trivial⟩, O, rfl, b3, b4⟩
  clear a3 a4 h0 h4 h8 h9 h10 h11 h12 a
  rintro _ a _ ⟨rfl, rfl, ⟨h0, h4, h8, h9, h10, h11⟩, O, h12, b3, b4⟩
  rename_i τ5
  have hE8 : ((τ5.upd g none).upd c4 none) c8 = some ⟨[.int .i64 s.O, .int .i64 s.E, .int .i64 s.M], false⟩ := by rw [AHeap.upd_ne _ _ c48, AHeap.upd_ne _ _ g8]; exact e8
  have l8 : lds ((τ5.upd g none).upd c4 none) c8 0 3 = some [.int .i64 s.O, .int .i64 s.E, .int .i64 s.M] := lds_three (ld_of hE8 rfl) (ld_of hE8 rfl) (ld_of hE8 rfl)
  simp -implicitDefEqProofs (disch := omega) only [List.any_cons, List.any_nil, Nat.reduceEqDiff, List.map_cons, List.map_nil, Option.map_some, Option.map_none, List.nil_append, ↓reduceIte, vcu, ↓vcd, h0, h4, h8, h9, h10, h11, h12]
  refine region_tree mixed (quiets [0, 1, 2, 3, 6, 9, 10, 13] (.one 4 (quiets [5, 7, 8] (.one 11 (quiets [12, 14, 15] (.one 16 (quiets [17, 18, 19] .stop))))))) [([0, 1, 2, 3, 6, 9, 10, 13], Sub ((τ5.upd g none).upd c4 none))] (by kernel_rfl) (by kernel_rfl) (fun p hp => by simp only [List.mem_singleton] at hp; subst hp; exact less2 fun _ _ _ _ e => e) ?_
  refine tree_quiets ((τ5.upd g none).upd c4 none) _ _ _ sf1 (by kernel_rfl) (by kernel_rfl) ?_
  simp -implicitDefEqProofs (disch := omega) only [List.any_cons, List.any_nil, Nat.reduceEqDiff, List.map_cons, List.map_nil, Option.map_some, Option.map_none, List.nil_append, ↓reduceIte, vcu, ↓vcd, pickOps_nil, pickOps_cons, pickO_some, List.getElem?_cons_succ, List.getElem?_cons_zero, h0, h4, h8, h9, h10, h11, h12, l8, co24]
  refine tree_one rfl ?_
  simp -implicitDefEqProofs (disch := omega) only [List.any_cons, List.any_nil, Nat.reduceEqDiff, List.map_cons, List.map_nil, Option.map_some, Option.map_none, List.nil_append, ↓reduceIte, vcu, ↓vcd]
  refine (pick_at β τ5 g h o bs _ 40 d5.rd (by omega) (by omega)).mono ?_
  rintro r τ6 ⟨x, rfl, a1, a2, hR, hK⟩
  have d6 := d5.step hR hK
  replace e4 := hK.at e4 g4
  replace w := w.pick hK
  have hq6 : ∀ k ob, k ≠ g → k ≠ c4 → τ5 k = some ob → τ6 k = some ob := fun k ob h1 _ e => hK k ob h1 e
  have hl6 := less2 hq6
  clear hR hK d5
  have hx1 : 0 ≤ x / 39 ∧ x / 39 ≤ 1 := by omega
  have hxm : x / 39 = 0 ∧ x / 39 * L = 0 ∨ x / 39 = 1 ∧ x / 39 * L = L := by
    have : x / 39 = 0 ∨ x / 39 = 1 := by omega
    rcases this with e | e <;> rw [e] <;> simp
  simp -implicitDefEqProofs (disch := omega) only [List.any_cons, List.any_nil, Nat.reduceEqDiff, List.map_cons, List.map_nil, Option.map_some, Option.map_none, List.nil_append, ↓reduceIte, vcu, ↓vcd, opK_some]
  refine ⟨keep_of rfl (fun p hp => by simp only [List.mem_singleton] at hp; subst hp; exact .inr hl6), ?_⟩
  refine tree_quiets (fun _ => none) _ _ _ (fun _ _ _ _ => fun x ob e => by cases e) (by kernel_rfl) (by kernel_rfl) ?_
  simp -implicitDefEqProofs (disch := omega) only [List.any_cons, List.any_nil, Nat.reduceEqDiff, List.map_cons, List.map_nil, Option.map_some, Option.map_none, List.nil_append, ↓reduceIte, vcu, ↓vcd, pickOps_nil, pickOps_cons, pickO_some, List.getElem?_cons_succ, List.getElem?_cons_zero]
  refine tree_one rfl ?_
  simp -implicitDefEqProofs (disch := omega) only [List.any_cons, List.any_nil, Nat.reduceEqDiff, List.map_cons, List.map_nil, Option.map_some, Option.map_none, List.nil_append, ↓reduceIte, vcu, ↓vcd]
  refine (pick_at β τ6 g h o bs _ 40 d6.rd (by omega) (by omega)).mono ?_
  rintro r τ7 ⟨y, rfl, a3, a4, hR, hK⟩
  have d7 := d6.step hR hK
  replace e4 := hK.at e4 g4
  replace w := w.pick hK
  have hq7 : ∀ k ob, k ≠ g → k ≠ c4 → τ5 k = some ob → τ7 k = some ob := fun k ob h1 h2 e => hK k ob h1 (hq6 k ob h1 h2 e)
  have hl7 := less2 hq7
  clear hR hK d6
  have hym : y / 39 = 0 ∧ y / 39 * L = 0 ∨ y / 39 = 1 ∧ y / 39 * L = L := by
    have : y / 39 = 0 ∨ y / 39 = 1 := by omega
    rcases this with e | e <;> rw [e] <;> simp
  generalize x / 39 * L = X at *
  simp -implicitDefEqProofs (disch := omega) only [List.any_cons, List.any_nil, Nat.reduceEqDiff, List.map_cons, List.map_nil, Option.map_some, Option.map_none, List.nil_append, ↓reduceIte, vcu, ↓vcd, opK_some]
  refine ⟨keep_of rfl (fun p hp => by simp only [List.mem_singleton] at hp; subst hp; exact .inr hl7), ?_⟩
  refine tree_quiets (fun _ => none) _ _ _ (fun _ _ _ _ => fun x ob e => by cases e) (by kernel_rfl) (by kernel_rfl) ?_
  simp -implicitDefEqProofs (disch := omega) only [List.any_cons, List.any_nil, Nat.reduceEqDiff, List.map_cons, List.map_nil, Option.map_some, Option.map_none, List.nil_append, ↓reduceIte, vcu, ↓vcd, pickOps_nil, pickOps_cons, pickO_some, List.getElem?_cons_succ, List.getElem?_cons_zero]
  refine tree_one rfl ?_
  refine r_sets (g := c4) (i := 0) (C := [.int .i64 0, .int .i64 0, .int .i64 0]) (by simp -implicitDefEqProofs (disch := omega) only [List.any_cons, List.any_nil, Nat.reduceEqDiff, List.map_cons, List.map_nil, Option.map_some, Option.map_none, List.nil_append, ↓reduceIte, vcu, ↓vcd, h4]) (by simp -implicitDefEqProofs (disch := omega) only [List.any_cons, List.any_nil, Nat.reduceEqDiff, List.map_cons, List.map_nil, Option.map_some, Option.map_none, List.nil_append, ↓reduceIte, vcu, ↓vcd, co24]; rfl) (by simp -implicitDefEqProofs (disch := omega) only [List.any_cons, List.any_nil, Nat.reduceEqDiff, List.map_cons, List.map_nil, Option.map_some, Option.map_none, List.nil_append, ↓reduceIte, vcu, ↓vcd]; rfl) (by simp -implicitDefEqProofs (disch := omega) only [List.any_cons, List.any_nil, Nat.reduceEqDiff, List.map_cons, List.map_nil, Option.map_some, Option.map_none, List.nil_append, ↓reduceIte, vcu, ↓vcd]; exact Nat.zero_lt_succ _) e4 (by simp -implicitDefEqProofs (disch := omega) only [List.any_cons, List.any_nil, Nat.reduceEqDiff, List.map_cons, List.map_nil, Option.map_some, Option.map_none, List.nil_append, ↓reduceIte, vcu, ↓vcd]; exact Nat.le_refl _) fun τ8 k8 e8' => ?_
  replace e8' : τ8 c4 = some ⟨[.int .i64 s.O, .int .i64 s.E, .int .i64 s.M], false⟩ := e8'
  have hl8 := less2 fun k ob h1 h2 e => k8 k ob h2 (hq7 k ob h1 h2 e)
  simp -implicitDefEqProofs (disch := omega) only [List.any_cons, List.any_nil, Nat.reduceEqDiff, List.map_cons, List.map_nil, Option.map_some, Option.map_none, List.nil_append, ↓reduceIte, vcu, ↓vcd]
  refine ⟨keep_of rfl (fun p hp => by simp only [List.mem_singleton] at hp; subst hp; exact .inr hl8), ?_⟩
  refine tree_quiets (fun _ => none) _ _ _ (fun _ _ _ _ => fun x ob e => by cases e) (by kernel_rfl) (by kernel_rfl) ?_
  simp -implicitDefEqProofs (disch := omega) only [List.any_cons, List.any_nil, Nat.reduceEqDiff, List.map_cons, List.map_nil, Option.map_some, Option.map_none, List.nil_append, ↓reduceIte, vcu, ↓vcd, pickOps_nil, pickOps_cons, pickO_some, List.getElem?_cons_succ, List.getElem?_cons_zero]
  refine tree_stop ?_
  have d8 := d7.put k8 g4 n4
  have l4 : lds τ8 c4 0 3 = some [.int .i64 s.O, .int .i64 s.E, .int .i64 s.M] := lds_three (ld_of e8' rfl) (ld_of e8' rfl) (ld_of e8' rfl)
  have w8 : OwnY σ g τ8 v cs := (w.put k8 e41).older d1
  simp -implicitDefEqProofs (disch := omega) only [List.any_cons, List.any_nil, Nat.reduceEqDiff, List.map_cons, List.map_nil, Option.map_some, Option.map_none, List.nil_append, ↓reduceIte, vcu, ↓vcd]
  refine fin_cttt Try.results76 τ8 (Sub.refl _) (v := .agg #[.int .i64 s.O, .int .i64 s.E, .int .i64 s.M]) (by simp -implicitDefEqProofs (disch := omega) only [List.any_cons, List.any_nil, Nat.reduceEqDiff, List.map_cons, List.map_nil, Option.map_some, Option.map_none, List.nil_append, ↓reduceIte, vcu, ↓vcd, h4, l4, co24]) ⟨s, v, cs, I + X, O - y / 39 * L, ?_, hD, hl14, w8, d8.kp, d8.rd.sub, by omega, by omega⟩
  simp -implicitDefEqProofs (disch := omega) only [List.any_cons, List.any_nil, Nat.reduceEqDiff, List.map_cons, List.map_nil, Option.map_some, Option.map_none, List.nil_append, ↓reduceIte, vcu, ↓vcd, h9]
end Go.Proofs.Ytphacjkogompoaa

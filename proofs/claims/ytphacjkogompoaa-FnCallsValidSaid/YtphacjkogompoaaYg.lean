/- Calls that are drawn, as rows; a dropped call. -/
import Derived.Test.YtphacjkogompoaaYf
set_option linter.unusedSimpArgs false
set_option linter.unusedVariables false
namespace Go.Abs
variable {w0 : World}
/-- nil among the results of a call: as a row of nothing under a new name -/
theorem ACall.namedT {P : Program} {f : FuncId} {args : List Value} {σ : AHeap} {R R' : Value → AHeap → Prop} {z : Nat} (h : ACall P w0 f args σ R)
    (hR : ∀ r σ', R r σ' → R' r σ' ∨ ∃ pre post, r = .tuple (pre ++ Value.slice none 0 0 :: post).toArray ∧ ∀ g, σ' g = none → R' (.tuple (pre ++ Value.slice (some ⟨g, 0, none⟩) 0 z :: post).toArray) (σ'.upd g (some ⟨[], false⟩))) : ACall P w0 f args σ R' := by
  refine ⟨h.1, fun pr β w args' hH hA => (h.2 pr β w args' hH hA).mono ?_⟩
  rintro e w' ⟨β', r, r', σ', c1, c2, c3, c4, c5⟩
  rcases hR r σ' c5 with hh | ⟨pre, post, rfl, hh⟩
  · exact ⟨β', r, r', σ', c1, c2, c3, c4, hh⟩
  · obtain ⟨g, a1, a2, a3⟩ := c4.name ⟨0, 0, 0⟩ [] (fun h => absurd h (by simp)) (fun _ => rfl) (fun _ _ h => absurd h (by simp)) (fun h => absurd h (by simp))
    have hl := le_bset a2 ⟨0, 0, 0⟩
    refine ⟨_, .tuple (pre ++ Value.slice (some ⟨g, 0, none⟩) 0 z :: post).toArray, r', _, c1.trans hl, c2, ?_, a3, hh g a1⟩
    cases c3 with
    | tuple xs ys e1 e2 =>
      refine .tuple _ _ (by simpa using e1) fun i hi => ?_
      have hi' : i < (pre ++ Value.slice none 0 0 :: post).toArray.size := by simpa using hi
      have h0 := e2 i hi'
      simp only [Array.getD_eq_getD_getElem?, List.getElem?_toArray] at h0 ⊢
      by_cases e : i = pre.length
      · subst e
        rw [List.getElem?_append_right (Nat.le_refl _), Nat.sub_self, List.getElem?_cons_zero, Option.getD_some] at h0 ⊢
        have hv : (ys[pre.length]?.getD Go.undef) = .slice none 0 0 := by generalize ys[pre.length]?.getD Go.undef = u at h0; cases h0; rfl
        rw [hv]
        exact .slcE (bset_same _ _ _) (by simp) none
      · have e3 : (pre ++ Value.slice (some ⟨g, 0, none⟩) 0 z :: post)[i]? = (pre ++ Value.slice none 0 0 :: post)[i]? := by
          rcases Nat.lt_or_ge i pre.length with hlt | hge
          · rw [List.getElem?_append_left hlt, List.getElem?_append_left hlt]
          · rw [List.getElem?_append_right hge, List.getElem?_append_right hge]
            obtain ⟨j, hj⟩ : ∃ j, i - pre.length = j + 1 := ⟨i - pre.length - 1, by omega⟩
            rw [hj, List.getElem?_cons_succ, List.getElem?_cons_succ]
        rw [e3]
        exact h0.mono hl
end Go.Abs
namespace Go.Proofs.Ytphacjkogompoaa
open Go Go.Abs Go.RowKit Go.Clos
variable {w0 : World}

theorem drawCV_row (σ : AHeap) (h o : Nat) (bs : List Int) (hv : IntsAt .u8 σ h o bs) (hl : bs.length ≤ 1048576) (hb : ∀ b ∈ bs, 0 ≤ b ∧ b ≤ 255) :
    ACall Try.prog w0 27 [.slice (some ⟨h, o, none⟩) bs.length 1] σ fun r σ' => ∃ (s : Sp) (q u : Nat) (cs : List Cl), r = .tuple #[.agg #[.int .i64 s.O, .int .i64 s.E, .int .i64 s.M], .slice (some ⟨q, u, none⟩) cs.length 3] ∧ Drawn s ∧ cs.length ≤ 14 ∧ TrisAt σ' q u cs ∧ Sub σ σ' := by
  refine (drawCV_at σ h o bs hv hl hb).namedT (z := 3) ?_
  rintro r σ' ⟨s, v, cs, rfl, hD, hl14, ⟨rfl, rfl⟩ | ⟨q, u, rfl, hq⟩, hs⟩
  · exact .inr ⟨[_], [], rfl, fun g hg => ⟨s, g, 0, [], rfl, hD, hl14, fun i hi => absurd hi (by simp), hs.trans (sub_upd hg)⟩⟩
  · exact .inl ⟨s, q, u, cs, rfl, hD, hl14, hq, hs⟩
theorem drawFr_row (σ : AHeap) (h o : Nat) (bs : List Int) (hv : IntsAt .u8 σ h o bs) (hl : bs.length ≤ 1048576) (hb : ∀ b ∈ bs, 0 ≤ b ∧ b ≤ 255) :
    ACall Try.prog w0 30 [.slice (some ⟨h, o, none⟩) bs.length 1] σ fun r σ' => ∃ (s : Sp) (q u : Nat) (cs : List Cl) (I O : Int), r = .tuple #[.agg #[.int .i64 s.O, .int .i64 s.E, .int .i64 s.M], .slice (some ⟨q, u, none⟩) cs.length 3, .int .i64 I, .int .i64 O] ∧ Drawn s ∧ cs.length ≤ 14 ∧ TrisAt σ' q u cs ∧ Sub σ σ' ∧ (0 ≤ I ∧ I ≤ 40) ∧ (-40 ≤ O ∧ O ≤ 40) := by
  refine (drawFr_at σ h o bs hv hl hb).namedT (z := 3) ?_
  rintro r σ' ⟨s, v, cs, I, O, rfl, hD, hl14, ⟨rfl, rfl⟩ | ⟨q, u, rfl, hq⟩, hs, hI, hO⟩
  · exact .inr ⟨[_], [_, _], rfl, fun g hg => ⟨s, g, 0, [], I, O, rfl, hD, hl14, fun i hi => absurd hi (by simp), hs.trans (sub_upd hg), hI, hO⟩⟩
  · exact .inl ⟨s, q, u, cs, I, O, rfl, hD, hl14, hq, hs, hI, hO⟩
theorem drawPut_row (σ : AHeap) (h o : Nat) (bs : List Int) (hv : IntsAt .u8 σ h o bs) (hl : bs.length ≤ 1048576) (hb : ∀ b ∈ bs, 0 ≤ b ∧ b ≤ 255) :
    ACall Try.prog w0 37 [.slice (some ⟨h, o, none⟩) bs.length 1] σ fun r σ' => ∃ (s : Sp) (q u : Nat) (cs : List Cl) (I O : Int), r = .tuple #[.agg #[.int .i64 s.O, .int .i64 s.E, .int .i64 s.M], .slice (some ⟨q, u, none⟩) cs.length 3, .int .i64 I, .int .i64 O] ∧ Drawn s ∧ cs.length ≤ 14 ∧ TrisAt σ' q u cs ∧ Sub σ σ' ∧ (0 ≤ I ∧ I ≤ 40) ∧ (-40 ≤ O ∧ O ≤ 40) := by
  refine (drawPut_at σ h o bs hv hl hb).namedT (z := 3) ?_
  rintro r σ' ⟨s, v, cs, I, O, rfl, hD, hl14, ⟨rfl, rfl⟩ | ⟨q, u, rfl, hq⟩, hs, hI, hO⟩
  · exact .inr ⟨[_], [_, _], rfl, fun g hg => ⟨s, g, 0, [], I, O, rfl, hD, hl14, fun i hi => absurd hi (by simp), hs.trans (sub_upd hg), hI, hO⟩⟩
  · exact .inl ⟨s, q, u, cs, I, O, rfl, hD, hl14, hq, hs, hI, hO⟩
theorem drawMv_row (σ : AHeap) (h o : Nat) (bs : List Int) (hv : IntsAt .u8 σ h o bs) (hl : bs.length ≤ 1048576) (hb : ∀ b ∈ bs, 0 ≤ b ∧ b ≤ 255) :
    ACall Try.prog w0 51 [.slice (some ⟨h, o, none⟩) bs.length 1] σ fun r σ' => ∃ (s : Sp) (q u : Nat) (cs : List Cl) (I O : Int), r = .tuple #[.agg #[.int .i64 s.O, .int .i64 s.E, .int .i64 s.M], .slice (some ⟨q, u, none⟩) cs.length 3, .int .i64 I, .int .i64 O] ∧ Drawn s ∧ cs.length ≤ 14 ∧ TrisAt σ' q u cs ∧ Sub σ σ' ∧ (0 ≤ I ∧ I ≤ 40) ∧ (-40 ≤ O ∧ O ≤ 40) := by
  refine (drawMv_at σ h o bs hv hl hb).namedT (z := 3) ?_
  rintro r σ' ⟨s, v, cs, I, O, rfl, hD, hl14, ⟨rfl, rfl⟩ | ⟨q, u, rfl, hq⟩, hs, hI, hO⟩
  · exact .inr ⟨[_], [_, _], rfl, fun g hg => ⟨s, g, 0, [], I, O, rfl, hD, hl14, fun i hi => absurd hi (by simp), hs.trans (sub_upd hg), hI, hO⟩⟩
  · exact .inl ⟨s, q, u, cs, I, O, rfl, hD, hl14, hq, hs, hI, hO⟩
theorem drawMvd_row (σ : AHeap) (h o : Nat) (bs : List Int) (hv : IntsAt .u8 σ h o bs) (hl : bs.length ≤ 1048576) (hb : ∀ b ∈ bs, 0 ≤ b ∧ b ≤ 255) :
    ACall Try.prog w0 54 [.slice (some ⟨h, o, none⟩) bs.length 1] σ fun r σ' => ∃ (q u q2 u2 : Nat) (cs ds : List Cl), r = .tuple #[.slice (some ⟨q, u, none⟩) cs.length 3, .slice (some ⟨q2, u2, none⟩) ds.length 3] ∧ cs.length ≤ 14 ∧ ds.length ≤ 13 ∧ TrisAt σ' q u cs ∧ TrisAt σ' q2 u2 ds ∧ Sub σ σ' := by
  refine ACall.namedT (z := 3) (R := fun r σ' => ∃ (q u : Nat) (w : Value) (cs ds : List Cl), r = .tuple #[.slice (some ⟨q, u, none⟩) cs.length 3, w] ∧ cs.length ≤ 14 ∧ ds.length ≤ 13 ∧ TrisAt σ' q u cs ∧ Tris σ' w ds ∧ Sub σ σ') ?_ ?_
  · refine (drawMvd_at σ h o bs hv hl hb).namedT (z := 3) ?_
    rintro r σ' ⟨v, w, cs, ds, rfl, h1, h2, ⟨rfl, rfl⟩ | ⟨q, u, rfl, hq⟩, hw, hs⟩
    · exact .inr ⟨[], [_], rfl, fun g hg => ⟨g, 0, w, [], ds, rfl, h1, h2, fun i hi => absurd hi (by simp), hw.sub (sub_upd hg), hs.trans (sub_upd hg)⟩⟩
    · exact .inl ⟨q, u, w, cs, ds, rfl, h1, h2, hq, hw, hs⟩
  · rintro r σ' ⟨q, u, w, cs, ds, rfl, h1, h2, hq, ⟨rfl, rfl⟩ | ⟨q2, u2, rfl, hq2⟩, hs⟩
    · exact .inr ⟨[_], [], rfl, fun g hg => ⟨q, u, g, 0, cs, [], rfl, h1, h2, hq.sub (sub_upd hg), fun i hi => absurd hi (by simp), hs.trans (sub_upd hg)⟩⟩
    · exact .inl ⟨q, u, q2, u2, cs, ds, rfl, h1, h2, hq, hq2, hs⟩
set_option maxRecDepth 8000 in
theorem drawDrp_at (σ : AHeap) (h o : Nat) (bs : List Int) (hv : IntsAt .u8 σ h o bs) (hl : bs.length ≤ 1048576) (hb : ∀ b ∈ bs, 0 ≤ b ∧ b ≤ 255) :
    ACall Try.prog w0 43 [.slice (some ⟨h, o, none⟩) bs.length 1] σ fun r σ' => ∃ (s : Sp) (v : Value) (cs : List Cl) (I : Int), r = .tuple #[.agg #[.int .i64 s.O, .int .i64 s.E, .int .i64 s.M], v, .int .i64 I] ∧ Drawn s ∧ cs.length ≤ 14 ∧ Tris σ' v cs ∧ Sub σ σ' := by
  refine acall_goc mixed Try.func43 rfl goodc43 fun pr => ?_
  simp -implicitDefEqProofs (disch := omega) only [List.any_cons, List.any_nil, Nat.reduceEqDiff, List.map_cons, List.map_nil, Option.map_some, Option.map_none, List.nil_append, ↓reduceIte, vcu, ↓vcd]
  refine r_new ze24 fun c2 τ1 n2 s1 e2 => ?_
  replace e2 : τ1 c2 = some ⟨[.int .i64 0, .int .i64 0, .int .i64 0], false⟩ := e2
  simp -implicitDefEqProofs (disch := omega) only [List.any_cons, List.any_nil, Nat.reduceEqDiff, List.map_cons, List.map_nil, Option.map_some, Option.map_none, List.nil_append, ↓reduceIte, vcu, ↓vcd]
  refine (opened τ1 h o bs (hv.sub s1) hl hb).mono ?_
  rintro r τ2 ⟨g, m, rfl, hs2, hR⟩
  simp -implicitDefEqProofs (disch := omega) only [List.any_cons, List.any_nil, Nat.reduceEqDiff, List.map_cons, List.map_nil, Option.map_some, Option.map_none, List.nil_append, ↓reduceIte, vcu, ↓vcd, opK_some]
  refine (calls_draw τ1 τ2 g h o _ 0 9 hR (by omega) (by omega)).mono ?_
  rintro _ τ3 ⟨s, v, cs, p', rfl, hD, hl14, w, hp1, hp2, d3⟩
  have e22 := hs2 _ _ e2
  have g2 : c2 ≠ g := by rintro rfl; rw [hR.free] at e2; cases e2
  simp -implicitDefEqProofs (disch := omega) only [List.any_cons, List.any_nil, Nat.reduceEqDiff, List.map_cons, List.map_nil, Option.map_some, Option.map_none, List.nil_append, ↓reduceIte, vcu, ↓vcd, opK_some, List.getElem?_toArray, List.getElem?_cons_zero, List.getElem?_cons_succ]
  refine r_local (cs := #[.int .i64 s.O, .int .i64 s.E, .int .i64 s.M]) ze24 (by decide) (by simp -implicitDefEqProofs (disch := omega) only [List.any_cons, List.any_nil, Nat.reduceEqDiff, List.map_cons, List.map_nil, Option.map_some, Option.map_none, List.nil_append, ↓reduceIte, vcu, ↓vcd]) (by rw [co24]; rfl) rfl rfl (Nat.zero_lt_succ _) fun c6 τ4 n6 s4 e6 => ?_
  replace e6 : τ4 c6 = some ⟨[.int .i64 s.O, .int .i64 s.E, .int .i64 s.M], false⟩ := e6
  have d4 := d3.new s4
  have g6 := (d3.fresh n6).2
  have c62 : c6 ≠ c2 := ne_of n6 (d3.rd.sub _ _ e2)
  replace w := w.sub s4
  have hlen := w.len
  clear s4 n6 d3
  have fin : ∀ (τ8 τ9 : AHeap) (a : AFrame) (I : Int), a 2 = .pointer (some ⟨c2, 0, none⟩) → a 3 = v → a 4 = .int .i64 I → Sub τ1 τ8 → OwnY τ2 g τ8 v cs → Kept c2 τ8 τ9 → τ9 c2 = some ⟨[.int .i64 s.O, .int .i64 s.E, .int .i64 s.M], false⟩ →
      finC Try.prog Try.f43 (fun r σ' => ∃ (s : Sp) (v : Value) (cs : List Cl) (I : Int), r = .tuple #[.agg #[.int .i64 s.O, .int .i64 s.E, .int .i64 s.M], v, .int .i64 I] ∧ Drawn s ∧ cs.length ≤ 14 ∧ Tris σ' v cs ∧ Sub σ σ') a τ9 := by
    intro τ8 τ9 a I a2 a3 a4 hs8 w8 k9 e9
    have l9 : lds τ9 c2 0 3 = some [.int .i64 s.O, .int .i64 s.E, .int .i64 s.M] := lds_three (ld_of e9 rfl) (ld_of e9 rfl) (ld_of e9 rfl)
    exact fin_ctt Try.results43 τ9 (Sub.refl _) (v := .agg #[.int .i64 s.O, .int .i64 s.E, .int .i64 s.M]) (by simp -implicitDefEqProofs (disch := omega) only [List.any_cons, List.any_nil, Nat.reduceEqDiff, List.map_cons, List.map_nil, Option.map_some, Option.map_none, List.nil_append, ↓reduceIte, vcu, ↓vcd, a2, l9, co24]) ⟨s, v, cs, I, by rw [a3, a4], hD, hl14, (w8.put k9 e22).tris, k9.sub (s1.trans hs8) n2⟩
  by_cases h0 : 0 < cs.length
  case neg =>
    have hn0 : ¬ (0 : Int) < (cs.length : Int) := by omega
    have hE6 : ((τ4.upd g none).upd c2 none) c6 = some ⟨[.int .i64 s.O, .int .i64 s.E, .int .i64 s.M], false⟩ := by rw [AHeap.upd_ne _ _ c62, AHeap.upd_ne _ _ g6]; exact e6
    have l6 : lds ((τ4.upd g none).upd c2 none) c6 0 3 = some [.int .i64 s.O, .int .i64 s.E, .int .i64 s.M] := lds_three (ld_of hE6 rfl) (ld_of hE6 rfl) (ld_of hE6 rfl)
    simp -implicitDefEqProofs (disch := omega) only [List.any_cons, List.any_nil, Nat.reduceEqDiff, List.map_cons, List.map_nil, Option.map_some, Option.map_none, List.nil_append, ↓reduceIte, vcu, ↓vcd, hlen]
    refine region_tree mixed (quiets [0, 1, 2] (.one 3 (quiets [4] (.one 5 (quiets [6, 7] .stop))))) [([0, 1, 2], Sub ((τ4.upd g none).upd c2 none))] (by kernel_rfl) (by kernel_rfl) (fun p hp => by simp only [List.mem_singleton] at hp; subst hp; exact less2 fun _ _ _ _ e => e) ?_
    refine tree_quiets ((τ4.upd g none).upd c2 none) _ _ _ sf1 (by kernel_rfl) (by kernel_rfl) ?_
    simp -implicitDefEqProofs (disch := omega) only [List.any_cons, List.any_nil, Nat.reduceEqDiff, List.map_cons, List.map_nil, Option.map_some, Option.map_none, List.nil_append, ↓reduceIte, vcu, ↓vcd, pickOps_nil, pickOps_cons, pickO_some, List.getElem?_cons_succ, List.getElem?_cons_zero, l6, co24]
    refine tree_one rfl ?_
    simp -implicitDefEqProofs (disch := omega) only [List.any_cons, List.any_nil, Nat.reduceEqDiff, List.map_cons, List.map_nil, Option.map_some, Option.map_none, List.nil_append, ↓reduceIte, vcu, ↓vcd]
    refine (pick_at τ1 τ4 g h o _ _ 13 d4.rd (by omega) (by omega)).mono ?_
    rintro r τ6 ⟨x, rfl, a1, a2, hR6, hK⟩
    have w6 := w.pick hK
    have hq6 : ∀ k ob, k ≠ g → k ≠ c2 → τ4 k = some ob → τ6 k = some ob := fun k ob h1 _ e => hK k ob h1 e
    have hl6 := less2 hq6
    simp -implicitDefEqProofs (disch := omega) only [List.any_cons, List.any_nil, Nat.reduceEqDiff, List.map_cons, List.map_nil, Option.map_some, Option.map_none, List.nil_append, ↓reduceIte, vcu, ↓vcd, opK_some]
    refine ⟨keep_of rfl (fun p hp => by simp only [List.mem_singleton] at hp; subst hp; exact .inr hl6), ?_⟩
    refine tree_quiets (fun _ => none) _ _ _ (fun _ _ _ _ => fun x ob e => by cases e) (by kernel_rfl) (by kernel_rfl) ?_
    simp -implicitDefEqProofs (disch := omega) only [List.any_cons, List.any_nil, Nat.reduceEqDiff, List.map_cons, List.map_nil, Option.map_some, Option.map_none, List.nil_append, ↓reduceIte, vcu, ↓vcd, pickOps_nil, pickOps_cons, pickO_some, List.getElem?_cons_succ, List.getElem?_cons_zero]
    refine tree_one rfl ?_
    refine r_sets (g := c2) (i := 0) (C := [.int .i64 0, .int .i64 0, .int .i64 0]) (by simp -implicitDefEqProofs (disch := omega) only [List.any_cons, List.any_nil, Nat.reduceEqDiff, List.map_cons, List.map_nil, Option.map_some, Option.map_none, List.nil_append, ↓reduceIte, vcu, ↓vcd]) (by simp -implicitDefEqProofs (disch := omega) only [List.any_cons, List.any_nil, Nat.reduceEqDiff, List.map_cons, List.map_nil, Option.map_some, Option.map_none, List.nil_append, ↓reduceIte, vcu, ↓vcd, co24]; rfl) (by simp -implicitDefEqProofs (disch := omega) only [List.any_cons, List.any_nil, Nat.reduceEqDiff, List.map_cons, List.map_nil, Option.map_some, Option.map_none, List.nil_append, ↓reduceIte, vcu, ↓vcd]; rfl) (by simp -implicitDefEqProofs (disch := omega) only [List.any_cons, List.any_nil, Nat.reduceEqDiff, List.map_cons, List.map_nil, Option.map_some, Option.map_none, List.nil_append, ↓reduceIte, vcu, ↓vcd]; exact Nat.zero_lt_succ _) (hR6.sub _ _ e2) (by simp -implicitDefEqProofs (disch := omega) only [List.any_cons, List.any_nil, Nat.reduceEqDiff, List.map_cons, List.map_nil, Option.map_some, Option.map_none, List.nil_append, ↓reduceIte, vcu, ↓vcd]; exact Nat.le_refl _) fun τ8 k8 e8 => ?_
    replace e8 : τ8 c2 = some ⟨[.int .i64 s.O, .int .i64 s.E, .int .i64 s.M], false⟩ := e8
    have hl8 := less2 fun k ob h1 h2 e => k8 k ob h2 (hq6 k ob h1 h2 e)
    simp -implicitDefEqProofs (disch := omega) only [List.any_cons, List.any_nil, Nat.reduceEqDiff, List.map_cons, List.map_nil, Option.map_some, Option.map_none, List.nil_append, ↓reduceIte, vcu, ↓vcd]
    refine ⟨keep_of rfl (fun p hp => by simp only [List.mem_singleton] at hp; subst hp; exact .inr hl8), ?_⟩
    refine tree_quiets (fun _ => none) _ _ _ (fun _ _ _ _ => fun x ob e => by cases e) (by kernel_rfl) (by kernel_rfl) ?_
    simp -implicitDefEqProofs (disch := omega) only [List.any_cons, List.any_nil, Nat.reduceEqDiff, List.map_cons, List.map_nil, Option.map_some, Option.map_none, List.nil_append, ↓reduceIte, vcu, ↓vcd, pickOps_nil, pickOps_cons, pickO_some, List.getElem?_cons_succ, List.getElem?_cons_zero]
    refine tree_stop ?_
    simp -implicitDefEqProofs (disch := omega) only [List.any_cons, List.any_nil, Nat.reduceEqDiff, List.map_cons, List.map_nil, Option.map_some, Option.map_none, List.nil_append, ↓reduceIte, vcu, ↓vcd]
    exact fin τ6 τ8 _ (x - 1) (by simp -implicitDefEqProofs (disch := omega) only [List.any_cons, List.any_nil, Nat.reduceEqDiff, List.map_cons, List.map_nil, Option.map_some, Option.map_none, List.nil_append, ↓reduceIte, vcu, ↓vcd]) (by simp -implicitDefEqProofs (disch := omega) only [List.any_cons, List.any_nil, Nat.reduceEqDiff, List.map_cons, List.map_nil, Option.map_some, Option.map_none, List.nil_append, ↓reduceIte, vcu, ↓vcd]) (by simp -implicitDefEqProofs (disch := omega) only [List.any_cons, List.any_nil, Nat.reduceEqDiff, List.map_cons, List.map_nil, Option.map_some, Option.map_none, List.nil_append, ↓reduceIte, vcu, ↓vcd]) hR6.sub w6 k8 e8
  have hp0 : (0 : Int) < (cs.length : Int) := by omega
  simp -implicitDefEqProofs (disch := omega) only [List.any_cons, List.any_nil, Nat.reduceEqDiff, List.map_cons, List.map_nil, Option.map_some, Option.map_none, List.nil_append, ↓reduceIte, vcu, ↓vcd, hlen]
  refine (pick_at τ1 τ4 g h o _ _ 3 d4.rd (by omega) (by omega)).mono ?_
  rintro r τ5 ⟨y, rfl, b1, b2, hR5, hK5⟩
  have w5 := w.pick hK5
  have d5 := d4.step hR5 hK5
  have e65 := hK5.at e6 g6
  have hE6 : ((τ5.upd g none).upd c2 none) c6 = some ⟨[.int .i64 s.O, .int .i64 s.E, .int .i64 s.M], false⟩ := by rw [AHeap.upd_ne _ _ c62, AHeap.upd_ne _ _ g6]; exact e65
  have l6 : lds ((τ5.upd g none).upd c2 none) c6 0 3 = some [.int .i64 s.O, .int .i64 s.E, .int .i64 s.M] := lds_three (ld_of hE6 rfl) (ld_of hE6 rfl) (ld_of hE6 rfl)
  clear w d4 hK5 hR5 e6
  by_cases hy : 0 < y
  case neg =>
    simp -implicitDefEqProofs (disch := omega) only [List.any_cons, List.any_nil, Nat.reduceEqDiff, List.map_cons, List.map_nil, Option.map_some, Option.map_none, List.nil_append, ↓reduceIte, vcu, ↓vcd, opK_some]
    refine region_tree mixed (quiets [0, 1, 2] (.one 3 (quiets [4] (.one 5 (quiets [6, 7] .stop))))) [([0, 1, 2], Sub ((τ5.upd g none).upd c2 none))] (by kernel_rfl) (by kernel_rfl) (fun p hp => by simp only [List.mem_singleton] at hp; subst hp; exact less2 fun _ _ _ _ e => e) ?_
    refine tree_quiets ((τ5.upd g none).upd c2 none) _ _ _ sf1 (by kernel_rfl) (by kernel_rfl) ?_
    simp -implicitDefEqProofs (disch := omega) only [List.any_cons, List.any_nil, Nat.reduceEqDiff, List.map_cons, List.map_nil, Option.map_some, Option.map_none, List.nil_append, ↓reduceIte, vcu, ↓vcd, pickOps_nil, pickOps_cons, pickO_some, List.getElem?_cons_succ, List.getElem?_cons_zero, l6, co24]
    refine tree_one rfl ?_
    simp -implicitDefEqProofs (disch := omega) only [List.any_cons, List.any_nil, Nat.reduceEqDiff, List.map_cons, List.map_nil, Option.map_some, Option.map_none, List.nil_append, ↓reduceIte, vcu, ↓vcd]
    refine (pick_at τ1 τ5 g h o _ _ 13 d5.rd (by omega) (by omega)).mono ?_
    rintro r τ6 ⟨x, rfl, a1, a2, hR6, hK⟩
    have w6 := w5.pick hK
    have hq6 : ∀ k ob, k ≠ g → k ≠ c2 → τ5 k = some ob → τ6 k = some ob := fun k ob h1 _ e => hK k ob h1 e
    have hl6 := less2 hq6
    simp -implicitDefEqProofs (disch := omega) only [List.any_cons, List.any_nil, Nat.reduceEqDiff, List.map_cons, List.map_nil, Option.map_some, Option.map_none, List.nil_append, ↓reduceIte, vcu, ↓vcd, opK_some]
    refine ⟨keep_of rfl (fun p hp => by simp only [List.mem_singleton] at hp; subst hp; exact .inr hl6), ?_⟩
    refine tree_quiets (fun _ => none) _ _ _ (fun _ _ _ _ => fun x ob e => by cases e) (by kernel_rfl) (by kernel_rfl) ?_
    simp -implicitDefEqProofs (disch := omega) only [List.any_cons, List.any_nil, Nat.reduceEqDiff, List.map_cons, List.map_nil, Option.map_some, Option.map_none, List.nil_append, ↓reduceIte, vcu, ↓vcd, pickOps_nil, pickOps_cons, pickO_some, List.getElem?_cons_succ, List.getElem?_cons_zero]
    refine tree_one rfl ?_
    refine r_sets (g := c2) (i := 0) (C := [.int .i64 0, .int .i64 0, .int .i64 0]) (by simp -implicitDefEqProofs (disch := omega) only [List.any_cons, List.any_nil, Nat.reduceEqDiff, List.map_cons, List.map_nil, Option.map_some, Option.map_none, List.nil_append, ↓reduceIte, vcu, ↓vcd]) (by simp -implicitDefEqProofs (disch := omega) only [List.any_cons, List.any_nil, Nat.reduceEqDiff, List.map_cons, List.map_nil, Option.map_some, Option.map_none, List.nil_append, ↓reduceIte, vcu, ↓vcd, co24]; rfl) (by simp -implicitDefEqProofs (disch := omega) only [List.any_cons, List.any_nil, Nat.reduceEqDiff, List.map_cons, List.map_nil, Option.map_some, Option.map_none, List.nil_append, ↓reduceIte, vcu, ↓vcd]; rfl) (by simp -implicitDefEqProofs (disch := omega) only [List.any_cons, List.any_nil, Nat.reduceEqDiff, List.map_cons, List.map_nil, Option.map_some, Option.map_none, List.nil_append, ↓reduceIte, vcu, ↓vcd]; exact Nat.zero_lt_succ _) (hR6.sub _ _ e2) (by simp -implicitDefEqProofs (disch := omega) only [List.any_cons, List.any_nil, Nat.reduceEqDiff, List.map_cons, List.map_nil, Option.map_some, Option.map_none, List.nil_append, ↓reduceIte, vcu, ↓vcd]; exact Nat.le_refl _) fun τ8 k8 e8 => ?_
    replace e8 : τ8 c2 = some ⟨[.int .i64 s.O, .int .i64 s.E, .int .i64 s.M], false⟩ := e8
    have hl8 := less2 fun k ob h1 h2 e => k8 k ob h2 (hq6 k ob h1 h2 e)
    simp -implicitDefEqProofs (disch := omega) only [List.any_cons, List.any_nil, Nat.reduceEqDiff, List.map_cons, List.map_nil, Option.map_some, Option.map_none, List.nil_append, ↓reduceIte, vcu, ↓vcd]
    refine ⟨keep_of rfl (fun p hp => by simp only [List.mem_singleton] at hp; subst hp; exact .inr hl8), ?_⟩
    refine tree_quiets (fun _ => none) _ _ _ (fun _ _ _ _ => fun x ob e => by cases e) (by kernel_rfl) (by kernel_rfl) ?_
    simp -implicitDefEqProofs (disch := omega) only [List.any_cons, List.any_nil, Nat.reduceEqDiff, List.map_cons, List.map_nil, Option.map_some, Option.map_none, List.nil_append, ↓reduceIte, vcu, ↓vcd, pickOps_nil, pickOps_cons, pickO_some, List.getElem?_cons_succ, List.getElem?_cons_zero]
    refine tree_stop ?_
    simp -implicitDefEqProofs (disch := omega) only [List.any_cons, List.any_nil, Nat.reduceEqDiff, List.map_cons, List.map_nil, Option.map_some, Option.map_none, List.nil_append, ↓reduceIte, vcu, ↓vcd]
    exact fin τ6 τ8 _ (x - 1) (by simp -implicitDefEqProofs (disch := omega) only [List.any_cons, List.any_nil, Nat.reduceEqDiff, List.map_cons, List.map_nil, Option.map_some, Option.map_none, List.nil_append, ↓reduceIte, vcu, ↓vcd]) (by simp -implicitDefEqProofs (disch := omega) only [List.any_cons, List.any_nil, Nat.reduceEqDiff, List.map_cons, List.map_nil, Option.map_some, Option.map_none, List.nil_append, ↓reduceIte, vcu, ↓vcd]) (by simp -implicitDefEqProofs (disch := omega) only [List.any_cons, List.any_nil, Nat.reduceEqDiff, List.map_cons, List.map_nil, Option.map_some, Option.map_none, List.nil_append, ↓reduceIte, vcu, ↓vcd]) hR6.sub w6 k8 e8
  obtain ⟨q, rfl, vq, nq, gq⟩ := w5.row h0
  have q2 : q ≠ c2 := ne_of nq e22
  simp -implicitDefEqProofs (disch := omega) only [List.any_cons, List.any_nil, Nat.reduceEqDiff, List.map_cons, List.map_nil, Option.map_some, Option.map_none, List.nil_append, ↓reduceIte, vcu, ↓vcd, opK_some]
  have vq6 : ((τ5.upd g none).upd c2 none) q = some ⟨tris cs, false⟩ := by rw [AHeap.upd_ne _ _ q2, AHeap.upd_ne _ _ gq]; exact vq
  refine region_tree mixed (quiets [0, 1, 2, 3, 4, 5] (.one 6 (quiets [7, 8, 9] (.one 10 (quiets [11, 12] .stop))))) [([0, 1, 2, 3, 4, 5, 7, 8, 9], Sub ((τ5.upd g none).upd c2 none))] (by kernel_rfl) (by kernel_rfl) (fun p hp => by simp only [List.mem_singleton] at hp; subst hp; exact less2 fun _ _ _ _ e => e) ?_
  refine tree_quiets ((τ5.upd g none).upd c2 none) _ _ _ (fun i hi => sf1 i (by simp only [List.mem_cons, List.not_mem_nil, or_false] at hi ⊢; omega)) (by kernel_rfl) (by kernel_rfl) ?_
  simp -implicitDefEqProofs (disch := omega) only [List.any_cons, List.any_nil, Nat.reduceEqDiff, List.map_cons, List.map_nil, Option.map_some, Option.map_none, List.nil_append, ↓reduceIte, vcu, ↓vcd, pickOps_nil, pickOps_cons, pickO_some, List.getElem?_cons_succ, List.getElem?_cons_zero, l6, co24]
  refine tree_one rfl ?_
  simp -implicitDefEqProofs (disch := omega) only [List.any_cons, List.any_nil, Nat.reduceEqDiff, List.map_cons, List.map_nil, Option.map_some, Option.map_none, List.nil_append, ↓reduceIte, vcu, ↓vcd]
  refine (pick_at τ1 τ5 g h o _ _ (cs.length : Int) d5.rd (by omega) (by omega)).mono ?_
  rintro r τ6 ⟨x, rfl, a1, a2, hR6, hK⟩
  have w6 := (OwnY.pick (.inr ⟨q, rfl, vq, nq, gq⟩ : OwnY τ2 g τ5 _ cs) hK)
  have hq6 : ∀ k ob, k ≠ g → k ≠ c2 → τ5 k = some ob → τ6 k = some ob := fun k ob h1 _ e => hK k ob h1 e
  have hl6 := less2 hq6
  obtain ⟨xn, rfl⟩ : ∃ xn : Nat, x = xn := ⟨x.toNat, by omega⟩
  have hxn : xn < cs.length := by omega
  obtain ⟨x1, -, -⟩ := trisAt_own vq6 xn hxn
  generalize (cs.getD xn cl0).i = X at x1
  simp -implicitDefEqProofs (disch := omega) only [List.any_cons, List.any_nil, Nat.reduceEqDiff, List.map_cons, List.map_nil, Option.map_some, Option.map_none, List.nil_append, ↓reduceIte, vcu, ↓vcd, opK_some]
  refine ⟨keep_of rfl (fun p hp => by simp only [List.mem_singleton] at hp; subst hp; exact .inr hl6), ?_⟩
  refine tree_quiets ((τ5.upd g none).upd c2 none) _ _ _ (fun i hi => sf1 i (by simp only [List.mem_cons, List.not_mem_nil, or_false] at hi ⊢; omega)) (by kernel_rfl) (by kernel_rfl) ?_
  simp -implicitDefEqProofs (disch := omega) only [List.any_cons, List.any_nil, Nat.reduceEqDiff, List.map_cons, List.map_nil, Option.map_some, Option.map_none, List.nil_append, ↓reduceIte, vcu, ↓vcd, pickOps_nil, pickOps_cons, pickO_some, List.getElem?_cons_succ, List.getElem?_cons_zero, Int.toNat_natCast, x1, Nat.add_zero]
  refine tree_one rfl ?_
  refine r_sets (g := c2) (i := 0) (C := [.int .i64 0, .int .i64 0, .int .i64 0]) (by simp -implicitDefEqProofs (disch := omega) only [List.any_cons, List.any_nil, Nat.reduceEqDiff, List.map_cons, List.map_nil, Option.map_some, Option.map_none, List.nil_append, ↓reduceIte, vcu, ↓vcd]) (by simp -implicitDefEqProofs (disch := omega) only [List.any_cons, List.any_nil, Nat.reduceEqDiff, List.map_cons, List.map_nil, Option.map_some, Option.map_none, List.nil_append, ↓reduceIte, vcu, ↓vcd, co24]; rfl) (by simp -implicitDefEqProofs (disch := omega) only [List.any_cons, List.any_nil, Nat.reduceEqDiff, List.map_cons, List.map_nil, Option.map_some, Option.map_none, List.nil_append, ↓reduceIte, vcu, ↓vcd]; rfl) (by simp -implicitDefEqProofs (disch := omega) only [List.any_cons, List.any_nil, Nat.reduceEqDiff, List.map_cons, List.map_nil, Option.map_some, Option.map_none, List.nil_append, ↓reduceIte, vcu, ↓vcd]; exact Nat.zero_lt_succ _) (hR6.sub _ _ e2) (by simp -implicitDefEqProofs (disch := omega) only [List.any_cons, List.any_nil, Nat.reduceEqDiff, List.map_cons, List.map_nil, Option.map_some, Option.map_none, List.nil_append, ↓reduceIte, vcu, ↓vcd]; exact Nat.le_refl _) fun τ8 k8 e8 => ?_
  replace e8 : τ8 c2 = some ⟨[.int .i64 s.O, .int .i64 s.E, .int .i64 s.M], false⟩ := e8
  have hl8 := less2 fun k ob h1 h2 e => k8 k ob h2 (hq6 k ob h1 h2 e)
  simp -implicitDefEqProofs (disch := omega) only [List.any_cons, List.any_nil, Nat.reduceEqDiff, List.map_cons, List.map_nil, Option.map_some, Option.map_none, List.nil_append, ↓reduceIte, vcu, ↓vcd]
  refine ⟨keep_of rfl (fun p hp => by simp only [List.mem_singleton] at hp; subst hp; exact .inr hl8), ?_⟩
  refine tree_quiets (fun _ => none) _ _ _ (fun _ _ _ _ => fun x ob e => by cases e) (by kernel_rfl) (by kernel_rfl) ?_
  simp -implicitDefEqProofs (disch := omega) only [List.any_cons, List.any_nil, Nat.reduceEqDiff, List.map_cons, List.map_nil, Option.map_some, Option.map_none, List.nil_append, ↓reduceIte, vcu, ↓vcd, pickOps_nil, pickOps_cons, pickO_some, List.getElem?_cons_succ, List.getElem?_cons_zero]
  refine tree_stop ?_
  simp -implicitDefEqProofs (disch := omega) only [List.any_cons, List.any_nil, Nat.reduceEqDiff, List.map_cons, List.map_nil, Option.map_some, Option.map_none, List.nil_append, ↓reduceIte, vcu, ↓vcd]
  exact fin τ6 τ8 _ X (by simp -implicitDefEqProofs (disch := omega) only [List.any_cons, List.any_nil, Nat.reduceEqDiff, List.map_cons, List.map_nil, Option.map_some, Option.map_none, List.nil_append, ↓reduceIte, vcu, ↓vcd]) (by simp -implicitDefEqProofs (disch := omega) only [List.any_cons, List.any_nil, Nat.reduceEqDiff, List.map_cons, List.map_nil, Option.map_some, Option.map_none, List.nil_append, ↓reduceIte, vcu, ↓vcd]) (by simp -implicitDefEqProofs (disch := omega) only [List.any_cons, List.any_nil, Nat.reduceEqDiff, List.map_cons, List.map_nil, Option.map_some, Option.map_none, List.nil_append, ↓reduceIte, vcu, ↓vcd]) hR6.sub w6 k8 e8
theorem drawDrp_row (σ : AHeap) (h o : Nat) (bs : List Int) (hv : IntsAt .u8 σ h o bs) (hl : bs.length ≤ 1048576) (hb : ∀ b ∈ bs, 0 ≤ b ∧ b ≤ 255) :
    ACall Try.prog w0 43 [.slice (some ⟨h, o, none⟩) bs.length 1] σ fun r σ' => ∃ (s : Sp) (q u : Nat) (cs : List Cl) (I : Int), r = .tuple #[.agg #[.int .i64 s.O, .int .i64 s.E, .int .i64 s.M], .slice (some ⟨q, u, none⟩) cs.length 3, .int .i64 I] ∧ Drawn s ∧ cs.length ≤ 14 ∧ TrisAt σ' q u cs ∧ Sub σ σ' := by
  refine (drawDrp_at σ h o bs hv hl hb).namedT (z := 3) ?_
  rintro r σ' ⟨s, v, cs, I, rfl, hD, hl14, ⟨rfl, rfl⟩ | ⟨q, u, rfl, hq⟩, hs⟩
  · exact .inr ⟨[_], [_], rfl, fun g hg => ⟨s, g, 0, [], I, rfl, hD, hl14, fun i hi => absurd hi (by simp), hs.trans (sub_upd hg)⟩⟩
  · exact .inl ⟨s, q, u, cs, I, rfl, hD, hl14, hq, hs⟩
end Go.Proofs.Ytphacjkogompoaa

/- slices.DeleteFunc of calls; CallDrop of the program. -/
import Derived.Test.YtphacjkogompoaaDe
set_option linter.unusedSimpArgs false
set_option linter.unusedVariables false
namespace Go.Proofs.Ytphacjkogompoaa
open Go Go.Abs Go.RowKit Go.Clos
variable {w0 : World}

theorem tris_take (L : List Cl) (i : Nat) : (tris L).take (i * 3) = tris (L.take i) := by
  induction L generalizing i with
  | nil => simp [tris]
  | cons c L ih =>
    cases i with
    | zero => simp [tris]
    | succ i => rw [tris_cons, List.take_succ_cons, tris_cons, show (i + 1) * 3 = i * 3 + 1 + 1 + 1 by omega, List.take_succ_cons, List.take_succ_cons, List.take_succ_cons, ih]
theorem dropL_all {cs : List Cl} {I : Int} (h : ∀ c ∈ cs, ¬ c.i = I) : dropL cs I = cs := dropL_no h
theorem delFn_at (σ : AHeap) (g b : Nat) (I : Int) (cs : List Cl) (hg : σ g = some ⟨tris cs, false⟩) (hb : σ b = some ⟨[.int .i64 I], false⟩) (hgb : b ≠ g) (hl : cs.length ≤ 1000) :
    ACall Try.prog w0 78 [.slice (some ⟨g, 0, none⟩) cs.length 3, .func (.func 79) #[] #[.pointer (some ⟨b, 0, none⟩)]] σ fun r σ' =>
      r = .slice (some ⟨g, 0, none⟩) (dropL cs I).length 3 ∧ Kept g σ σ' ∧ ∃ C, σ' g = some ⟨tris (dropL cs I) ++ C, false⟩ := by
  refine acall_go mixed Try.func78 rfl good78 fun pr => ?_
  simp -implicitDefEqProofs (disch := omega) only [List.any_cons, List.any_nil, Nat.reduceEqDiff, List.map_cons, List.map_nil, Option.map_some, Option.map_none, List.nil_append, ↓reduceIte, vcu, ↓vcd]
  refine (indexFn_at σ g 0 cs _ _ (fun c => c.i = I) (trisAt_own hg) (by omega) fun c _ pw => dropC_at σ b I c hb).mono ?_
  rintro r _ ⟨rfl, ⟨rfl, hall⟩ | ⟨k, rfl, hk, hnk, hup⟩⟩
  · simp -implicitDefEqProofs (disch := omega) only [List.any_cons, List.any_nil, Nat.reduceEqDiff, List.map_cons, List.map_nil, Option.map_some, Option.map_none, List.nil_append, ↓reduceIte, vcu, ↓vcd, opK_some]
    refine fin_one Try.results78 ⟨?_, Kept.refl _ _, [], ?_⟩
    · simp -implicitDefEqProofs (disch := omega) only [List.any_cons, List.any_nil, Nat.reduceEqDiff, List.map_cons, List.map_nil, Option.map_some, Option.map_none, List.nil_append, ↓reduceIte, vcu, ↓vcd]
      rw [dropL_all hall]
    · rw [dropL_all hall, List.append_nil]; exact hg
  · rename_i σ
    have hk0 : (dropL (cs.take (k + 1)) I) = cs.take k := by
      rw [dropL_take _ _ hk, dropL_all hup, if_pos hnk, List.append_nil]
    simp -implicitDefEqProofs (disch := omega) only [List.any_cons, List.any_nil, Nat.reduceEqDiff, List.map_cons, List.map_nil, Option.map_some, Option.map_none, List.nil_append, ↓reduceIte, vcu, ↓vcd, opK_some]
    refine vc_loop_c mixed (by kernel_rfl) [0, 1] (fun m a τ => ∃ (j i : Nat) (L : List Cl), m + j = cs.length ∧ a 6 = .int .i64 j ∧ a 5 = .int .i64 i ∧ i < j ∧ j ≤ cs.length ∧ L.length = cs.length ∧ L.take i = dropL (cs.take j) I ∧ L.drop j = cs.drop j ∧ Kept g σ τ ∧ τ g = some ⟨tris L, false⟩)
      (cs.length - (k + 1)) ⟨k + 1, k, cs, by omega, rfl, rfl, by omega, by omega, rfl, hk0.symm, rfl, Kept.refl _ _, hg⟩ ?_
    rintro m a τ hc ⟨j, i, L, hj, h6, h5, hij, hjl, hL, hLt, hLd, hkp, hgL⟩
    simp -implicitDefEqProofs (disch := omega) only [List.any_cons, List.any_nil, Nat.reduceEqDiff, List.map_cons, List.map_nil, Option.map_some, Option.map_none, List.nil_append, ↓reduceIte, vcu, ↓vcd] at hc
    obtain ⟨h0, h1, -⟩ := hc
    have hbτ := hkp.at hb hgb
    by_cases hlt : j < cs.length
    · have hLj : L.getD j cl0 = gc cs j := by
        have e1 : (L.drop j)[0]? = (cs.drop j)[0]? := by rw [hLd]
        rw [List.getElem?_drop, List.getElem?_drop, Nat.add_zero] at e1
        simp only [gc, List.getD, e1]
      have hx := (trisAt_own hgL).all (show j < L.length by omega)
      rw [hLj, Nat.zero_add] at hx
      have hkj := dropL_take cs I hlt
      generalize gc cs j = c at hx hkj
      obtain ⟨A, B, C⟩ := c
      dsimp only at hx hkj
      simp -implicitDefEqProofs (disch := omega) only [List.any_cons, List.any_nil, Nat.reduceEqDiff, List.map_cons, List.map_nil, Option.map_some, Option.map_none, List.nil_append, ↓reduceIte, vcu, ↓vcd, h0, h1, h5, h6, hx, co34, Nat.zero_add]
      refine r_local (cs := #[.int .i64 A, .int .i64 B, .int .i64 C]) ze34 (by decide) (by simp -implicitDefEqProofs (disch := omega) only [List.any_cons, List.any_nil, Nat.reduceEqDiff, List.map_cons, List.map_nil, Option.map_some, Option.map_none, List.nil_append, ↓reduceIte, vcu, ↓vcd]) (by rw [co34]; rfl) rfl rfl (Nat.zero_lt_succ _) fun q τ2 nq sq eq => ?_
      have hl3 : lds τ2 q 0 3 = some [.int .i64 A, .int .i64 B, .int .i64 C] := lds_three (ld_of eq rfl) (ld_of eq rfl) (ld_of eq rfl)
      have hqg : q ≠ g := ne_of nq hgL
      simp -implicitDefEqProofs (disch := omega) only [List.any_cons, List.any_nil, Nat.reduceEqDiff, List.map_cons, List.map_nil, Option.map_some, Option.map_none, List.nil_append, ↓reduceIte, vcu, ↓vcd, h0, h1, h5, h6, hl3, co34]
      refine r_callv ⟨(79, #[.pointer (some ⟨b, 0, none⟩)]), by simp -implicitDefEqProofs (disch := omega) only [List.any_cons, List.any_nil, Nat.reduceEqDiff, List.map_cons, List.map_nil, Option.map_some, Option.map_none, List.nil_append, ↓reduceIte, vcu, ↓vcd, h1], ?_⟩
      simp -implicitDefEqProofs (disch := omega) only [List.any_cons, List.any_nil, Nat.reduceEqDiff, List.map_cons, List.map_nil, Option.map_some, Option.map_none, List.nil_append, ↓reduceIte, vcu, ↓vcd]
      refine (dropC_at τ2 b I ⟨A, B, C⟩ (sq _ _ hbτ)).mono ?_
      rintro r _ ⟨rfl, rfl⟩
      rename_i τ2
      by_cases hB : A = I
      · rw [decide_eq_true hB]
        rw [if_pos hB, List.append_nil] at hkj
        simp -implicitDefEqProofs (disch := omega) only [List.any_cons, List.any_nil, Nat.reduceEqDiff, List.map_cons, List.map_nil, Option.map_some, Option.map_none, List.nil_append, ↓reduceIte, vcu, ↓vcd, opK_some, h0, h1, h5, h6]
        refine ⟨⟨trivial, trivial, trivial⟩, m - 1, by omega, j + 1, i, L, by omega, by simp, by simp, by omega, by omega, hL, by rw [hkj]; exact hLt, ?_, hkp.trans sq.kept, sq _ _ hgL⟩
        rw [← List.drop_drop, ← List.drop_drop, hLd]
      · rw [decide_eq_false hB]
        rw [if_neg hB] at hkj
        simp -implicitDefEqProofs (disch := omega) only [List.any_cons, List.any_nil, Nat.reduceEqDiff, List.map_cons, List.map_nil, Option.map_some, Option.map_none, List.nil_append, ↓reduceIte, vcu, ↓vcd, opK_some, h0, h1, h5, h6, hl3, co34]
        refine r_sets (g := g) (i := i * 3) (C := tris L) (by simp -implicitDefEqProofs (disch := omega) only [List.any_cons, List.any_nil, Nat.reduceEqDiff, List.map_cons, List.map_nil, Option.map_some, Option.map_none, List.nil_append, ↓reduceIte, vcu, ↓vcd, Nat.zero_add]) (by simp -implicitDefEqProofs (disch := omega) only [List.any_cons, List.any_nil, Nat.reduceEqDiff, List.map_cons, List.map_nil, Option.map_some, Option.map_none, List.nil_append, ↓reduceIte, vcu, ↓vcd, co34]; rfl) (by simp -implicitDefEqProofs (disch := omega) only [List.any_cons, List.any_nil, Nat.reduceEqDiff, List.map_cons, List.map_nil, Option.map_some, Option.map_none, List.nil_append, ↓reduceIte, vcu, ↓vcd]; rfl) (by simp -implicitDefEqProofs (disch := omega) only [List.any_cons, List.any_nil, Nat.reduceEqDiff, List.map_cons, List.map_nil, Option.map_some, Option.map_none, List.nil_append, ↓reduceIte, vcu, ↓vcd]; exact Nat.zero_lt_succ _) (sq _ _ hgL) (by simp -implicitDefEqProofs (disch := omega) only [List.any_cons, List.any_nil, Nat.reduceEqDiff, List.map_cons, List.map_nil, Option.map_some, Option.map_none, List.nil_append, ↓reduceIte, vcu, ↓vcd]; rw [tris_length]; show i * 3 + 3 ≤ _; omega) fun τ3 k3 e3 => ?_
        replace e3 : τ3 g = some ⟨lwrite (tris L) (i * 3) [.int .i64 A, .int .i64 B, .int .i64 C], false⟩ := by rw [e3]; simp -implicitDefEqProofs (disch := omega) only [List.any_cons, List.any_nil, Nat.reduceEqDiff, List.map_cons, List.map_nil, Option.map_some, Option.map_none, List.nil_append, ↓reduceIte, vcu, ↓vcd]; rfl
        have hwr := tris_write L i (by omega) ⟨A, B, C⟩
        dsimp only at hwr
        rw [hwr] at e3
        simp -implicitDefEqProofs (disch := omega) only [List.any_cons, List.any_nil, Nat.reduceEqDiff, List.map_cons, List.map_nil, Option.map_some, Option.map_none, List.nil_append, ↓reduceIte, vcu, ↓vcd, h0, h1, h5, h6]
        refine ⟨⟨trivial, trivial, trivial⟩, m - 1, by omega, j + 1, i + 1, L.set i ⟨A, B, C⟩, by omega, by simp, by simp, by omega, by omega, by rw [List.length_set]; exact hL, ?_, ?_, (hkp.trans sq.kept).trans k3, e3⟩
        · rw [hkj, ← hLt, List.take_succ_eq_append_getElem (by rw [List.length_set]; omega), List.take_set_of_le (Nat.le_refl _)]
          simp
        · rw [List.drop_set_of_lt (by omega), ← List.drop_drop, ← List.drop_drop, hLd]
    · have e : j = cs.length := by omega
      subst e
      rw [List.take_length] at hLt
      have hil : (dropL cs I).length = i := by rw [← hLt, List.length_take]; omega
      simp -implicitDefEqProofs (disch := omega) only [List.any_cons, List.any_nil, Nat.reduceEqDiff, List.map_cons, List.map_nil, Option.map_some, Option.map_none, List.nil_append, ↓reduceIte, vcu, ↓vcd, h0, h1, h5, h6]
      have hst : sts τ g (0 + i * 3) (azeros (.agg #[.int .i64 0, .int .i64 0, .int .i64 0]) ((cs.length - i) * 3)) = some (τ.upd g (some ⟨lwrite (tris L) (0 + i * 3) (tris (List.replicate (cs.length - i) cl0)), false⟩)) := by
        rw [azeros_tris]
        unfold sts
        rw [hgL]
        simp only [Option.bind_some]
        rw [if_pos ⟨trivial, by rw [tris_length, tris_length, List.length_replicate]; omega, by rw [tris_length, List.length_replicate]; omega⟩]
      have hall : (azeros (.agg #[.int .i64 0, .int .i64 0, .int .i64 0]) ((cs.length - i) * 3)).all Value.oneCell' = true := by rw [azeros_tris]; exact tris_one _
      refine r_clear_at (e := 34) (i := Try.t34) (z := .agg #[.int .i64 0, .int .i64 0, .int .i64 0]) (h := g) (b := 0 + i * 3) (len := cs.length - i) Try.underlying29 rfl rfl (by simp -implicitDefEqProofs (disch := omega) only [List.any_cons, List.any_nil, Nat.reduceEqDiff, List.map_cons, List.map_nil, Option.map_some, Option.map_none, List.nil_append, ↓reduceIte, vcu, ↓vcd, Int.toNat_natCast]; rfl) (.inr ⟨hall, hst⟩) ?_
      simp -implicitDefEqProofs (disch := omega) only [List.any_cons, List.any_nil, Nat.reduceEqDiff, List.map_cons, List.map_nil, Option.map_some, Option.map_none, List.nil_append, ↓reduceIte, vcu, ↓vcd, h0, h5]
      refine fin_one Try.results78 ⟨?_, fun x ob hx e => ?_, tris (List.replicate (cs.length - i) cl0) ++ (tris L).drop (i * 3 + (tris (List.replicate (cs.length - i) cl0)).length), ?_⟩
      · simp -implicitDefEqProofs (disch := omega) only [List.any_cons, List.any_nil, Nat.reduceEqDiff, List.map_cons, List.map_nil, Option.map_some, Option.map_none, List.nil_append, ↓reduceIte, vcu, ↓vcd, Int.toNat_natCast]
        rw [hil]
      · rw [AHeap.upd_ne _ _ hx]; exact hkp x ob hx e
      · rw [AHeap.upd_same, Nat.zero_add]
        unfold lwrite
        rw [tris_take, hLt, List.append_assoc]

theorem delFn_calls (β σ : AHeap) (v : Value) (b : Nat) (I : Int) (cs : List Cl) (hs : Sub β σ) (hv : OwnC β σ v cs) (hb : β b = some ⟨[.int .i64 I], false⟩) (hl : cs.length ≤ 1000) :
    ACall Try.prog w0 78 [v, .func (.func 79) #[] #[.pointer (some ⟨b, 0, none⟩)]] σ fun r σ' => Sub β σ' ∧ OwnC β σ' r (dropL cs I) := by
  have hbσ := hs _ _ hb
  rcases hv with ⟨rfl, rfl⟩ | ⟨g, rfl, hg, hn⟩
  · refine ACall.nil_arg (pre := []) (z := 3) (by kernel_rfl) fun g hg => ?_
    have hbg : b ≠ g := ne_of' hg hbσ
    refine (delFn_at _ g b I [] (AHeap.upd_same _ _ _) (by rw [AHeap.upd_ne _ _ hbg]; exact hbσ) hbg (by simp)).shrink ?_
    rintro r σ' ⟨rfl, hk, C, hC⟩
    refine ⟨g, _, C, hC, fun x ob e => ?_, .inr ⟨g, rfl, AHeap.upd_same _ _ _, free_sub hs hg⟩⟩
    have hx : x ≠ g := by rintro rfl; rw [hs _ _ e] at hg; cases hg
    rw [AHeap.upd_ne _ _ hx]
    exact hk x ob hx (by rw [AHeap.upd_ne _ _ hx]; exact hs _ _ e)
  · have hbg : b ≠ g := ne_of' hn hb
    refine (delFn_at σ g b I cs hg hbσ hbg hl).shrink ?_
    rintro r σ' ⟨rfl, hk, C, hC⟩
    refine ⟨g, _, C, hC, fun x ob e => ?_, .inr ⟨g, rfl, AHeap.upd_same _ _ _, hn⟩⟩
    have hx : x ≠ g := by rintro rfl; rw [e] at hn; cases hn
    rw [AHeap.upd_ne _ _ hx]
    exact hk x ob hx (hs _ _ e)

theorem implDrop_at (σ : AHeap) (s : Sp) (h o : Nat) (cs : List Cl) (I : Int) (hv : TrisAt σ h o cs) (hl : cs.length ≤ 1048576) :
    ACall Try.prog w0 41 [.agg #[.int .i64 s.O, .int .i64 s.E, .int .i64 s.M], .slice (some ⟨h, o, none⟩) cs.length 3, .int .i64 I] σ fun r σ' => ∃ v, r = .tuple #[v, .bool (dropOk s cs I)] ∧ Sub σ σ' ∧ OwnC σ σ' v (drL s cs I) := by
  refine acall_go mixed Try.func41 rfl good41 fun pr => ?_
  simp -implicitDefEqProofs (disch := omega) only [List.any_cons, List.any_nil, Nat.reduceEqDiff, List.map_cons, List.map_nil, Option.map_some, Option.map_none, List.nil_append, ↓reduceIte, vcu, ↓vcd]
  refine r_boxed fun b τ0 nb s0 e0 => ?_
  replace e0 : τ0 b = some ⟨[.int .i64 s.O, .int .i64 s.E, .int .i64 s.M], false⟩ := e0
  refine r_boxed fun b2 τ nb2 s2 e2 => ?_
  replace e2 : τ b2 = some ⟨[.int .i64 I], false⟩ := e2
  have e1 := s2 _ _ e0
  have s1 := s0.trans s2
  have l3 : lds τ b 0 3 = some [.int .i64 s.O, .int .i64 s.E, .int .i64 s.M] := lds_three (ld_of e1 rfl) (ld_of e1 rfl) (ld_of e1 rfl)
  simp -implicitDefEqProofs (disch := omega) only [List.any_cons, List.any_nil, Nat.reduceEqDiff, List.map_cons, List.map_nil, Option.map_some, Option.map_none, List.nil_append, ↓reduceIte, vcu, ↓vcd, l3, co24]
  refine (implCV_at τ s.O s.E s.M h o cs (hv.sub s1) hl).mono ?_
  rintro r _ ⟨rfl, rfl⟩
  rename_i τ
  by_cases hC : CV s cs
  case neg =>
    obtain ⟨q1, q2⟩ := drL_no (i := I) hC
    rw [decide_eq_false hC, q1, q2]
    simp -implicitDefEqProofs (disch := omega) only [List.any_cons, List.any_nil, Nat.reduceEqDiff, List.map_cons, List.map_nil, Option.map_some, Option.map_none, List.nil_append, ↓reduceIte, vcu, ↓vcd, opK_some, Bool.not_false]
    refine fin_two Try.results41 ⟨.slice none 0 0, ?_, s1, .inl ⟨rfl, rfl⟩⟩
    simp -implicitDefEqProofs (disch := omega) only [List.any_cons, List.any_nil, Nat.reduceEqDiff, List.map_cons, List.map_nil, Option.map_some, Option.map_none, List.nil_append, ↓reduceIte, vcu, ↓vcd]
  rw [decide_eq_true hC]
  obtain ⟨q1, q2⟩ := drL_ok (i := I) hC
  rw [q1, q2]
  have hl12 := hC.len
  simp -implicitDefEqProofs (disch := omega) only [List.any_cons, List.any_nil, Nat.reduceEqDiff, List.map_cons, List.map_nil, Option.map_some, Option.map_none, List.nil_append, ↓reduceIte, vcu, ↓vcd, opK_some, Bool.not_true]
  refine (cloneC_at τ h o cs (hv.sub s1) hl).mono ?_
  rintro va τ4 ⟨hs4, wa⟩
  simp -implicitDefEqProofs (disch := omega) only [List.any_cons, List.any_nil, Nat.reduceEqDiff, List.map_cons, List.map_nil, Option.map_some, Option.map_none, List.nil_append, ↓reduceIte, vcu, ↓vcd, opK_some]
  refine (delFn_calls τ τ4 va b2 I cs hs4 wa e2 (by omega)).mono ?_
  rintro vd τ5 ⟨s5, wd⟩
  have hld := ownC_lenD wd
  simp -implicitDefEqProofs (disch := omega) only [List.any_cons, List.any_nil, Nat.reduceEqDiff, List.map_cons, List.map_nil, Option.map_some, Option.map_none, List.nil_append, ↓reduceIte, vcu, ↓vcd, opK_some, hld]
  refine fin_two Try.results41 ⟨vd, ?_, s1.trans s5, wd.older s1⟩
  simp -implicitDefEqProofs (disch := omega) only [List.any_cons, List.any_nil, Nat.reduceEqDiff, List.map_cons, List.map_nil, Option.map_some, Option.map_none, List.nil_append, ↓reduceIte, vcu, ↓vcd]
  simp
end Go.Proofs.Ytphacjkogompoaa

/- slices.DeleteFunc of a network; MergeNet of the program. -/
import Derived.Test.YtnkpoflhdfchjaaOn
import Derived.Test.YtnkpoflhdfchjaaOh
set_option linter.unusedSimpArgs false
set_option linter.unusedVariables false
namespace Go.Abs
open Go.RowKit
/-- what lies behind in a row is forgotten -/
theorem RelH.shrink {w0 : World} {pr : Prot} {β : Beta} {σ : AHeap} {w : World} {g : Nat} {C D : List Value} (hH : RelH w0 pr β σ w) (hσ : σ g = some ⟨C ++ D, false⟩) : RelH w0 pr β (σ.upd g (some ⟨C, false⟩)) w := by
  obtain ⟨p, hp, a1, a2⟩ := hH.obj g _ hσ
  refine ⟨hH.below, ?_, hH.dom, fun x ox hx => ?_, fun x y ox oy px py hne hx hy hpx hpy hro sx sy => ?_, fun k gd ob hk hgu => hH.prot k gd ob hk fun G x e => guard_upd (hgu G x e) rfl, hH.gb⟩
  · obtain ⟨N, hN⟩ := hH.fin
    refine ⟨N, fun x hx => ⟨(hN x hx).1, ?_⟩⟩
    have hne : x ≠ g := by rintro rfl; rw [(hN x hx).2] at hσ; cases hσ
    rw [AHeap.upd_ne _ _ hne]; exact (hN x hx).2
  · by_cases e : x = g
    · subst e; rw [AHeap.upd_same] at hx; cases hx
      refine ⟨p, hp, fun h => (List.append_eq_nil_iff.1 (a1 h)).1, fun hq => ?_⟩
      obtain ⟨cs, elem, lo, hi, h1, h2, h3, h4, h5⟩ := (a2 hq).ex
      refine ⟨cs, elem, lo, hi, h1, h2, ?_, fun i v hv => h4 i v ?_, h5⟩
      · dsimp only at h3 ⊢; rw [List.length_append] at h3; omega
      · dsimp only at hv ⊢
        rw [List.getElem?_append_left]
        · exact hv
        · rcases Nat.lt_or_ge i C.length with h | h
          · exact h
          · rw [List.getElem?_eq_none h] at hv; cases hv
    · rw [AHeap.upd_ne _ _ e] at hx; exact hH.obj x ox hx
  · by_cases e : x = g
    · subst e
      rw [AHeap.upd_ne _ _ (fun h => hne h.symm)] at hy
      exact hH.disj x y _ oy px py hne hσ hy hpx hpy rfl sx sy
    · rw [AHeap.upd_ne _ _ e] at hx
      by_cases e2 : y = g
      · subst e2; exact hH.disj x y ox _ px py hne hx hσ hpx hpy hro sx sy
      · rw [AHeap.upd_ne _ _ e2] at hy; exact hH.disj x y ox oy px py hne hx hy hpx hpy hro sx sy
theorem ACall.shrink {P : Program} {w0 : World} {f : FuncId} {args : List Value} {σ : AHeap} {R R' : Value → AHeap → Prop} (h : ACall P w0 f args σ R)
    (hR : ∀ r σ', R r σ' → ∃ g C D, σ' g = some ⟨C ++ D, false⟩ ∧ R' r (σ'.upd g (some ⟨C, false⟩))) : ACall P w0 f args σ R' :=
  ⟨h.1, fun pr β w args' hH hA => (h.2 pr β w args' hH hA).mono fun _ _ ⟨β', r, r', σ', a1, a2, a3, a4, a5⟩ =>
    let ⟨_, _, _, e1, e2⟩ := hR r σ' a5; ⟨β', r, r', _, a1, a2, a3, a4.shrink e1, e2⟩⟩
end Go.Abs
namespace Go.Proofs.Ytnkpoflhdfchjaa
open Go Go.Abs Go.RowKit
variable {w0 : World}

theorem out_at (σ : AHeap) (b : Nat) (lines A B : Int) (hb : σ b = some ⟨[.int .i64 lines], false⟩) :
    ACall Try.prog w0 91 [.agg #[.int .i64 A, .int .i64 B], .pointer (some ⟨b, 0, none⟩)] σ fun r σ' => r = .bool (decide (lines ≤ B)) ∧ σ' = σ := by
  refine acall_go mixed Try.func91 rfl good91 fun pr => ?_
  simp -implicitDefEqProofs (disch := omega) only [List.any_cons, List.any_nil, Nat.reduceEqDiff, List.map_cons, List.map_nil, Option.map_some, Option.map_none, List.nil_append, ↓reduceIte, vcu0, vcu1, vcu2, vcu3, vcu4, vcu5, vcu6, vcu7, vcu8, vcu9, vcu10, vcu11, vcu12, vcu13, vcu14, vcu15, vcu16, vcu17, vcu18, vcu19, vcu20, vcu21, vcu22, vcu23, vcu24, vcu25, vcu26, ↓vcd0, ↓vcd1, ↓vcd2, ↓vcd3]
  refine r_boxed fun h1 τ1 n1 s1 e1 => ?_
  replace e1 : τ1 h1 = some ⟨[.int .i64 A, .int .i64 B], false⟩ := e1
  have l1 : ld τ1 h1 (0 + 1) = some (.int .i64 B) := ld_of e1 rfl
  have l2 : ld τ1 b 0 = some (.int .i64 lines) := ld_of (s1 _ _ hb) rfl
  simp -implicitDefEqProofs (disch := omega) only [List.any_cons, List.any_nil, Nat.reduceEqDiff, List.map_cons, List.map_nil, Option.map_some, Option.map_none, List.nil_append, ↓reduceIte, vcu0, vcu1, vcu2, vcu3, vcu4, vcu5, vcu6, vcu7, vcu8, vcu9, vcu10, vcu11, vcu12, vcu13, vcu14, vcu15, vcu16, vcu17, vcu18, vcu19, vcu20, vcu21, vcu22, vcu23, vcu24, vcu25, vcu26, ↓vcd0, ↓vcd1, ↓vcd2, ↓vcd3, l1, l2]
  refine fin_drop Try.results91 σ s1 ⟨?_, rfl⟩
  simp -implicitDefEqProofs (disch := omega) only [List.any_cons, List.any_nil, Nat.reduceEqDiff, List.map_cons, List.map_nil, Option.map_some, Option.map_none, List.nil_append, ↓reduceIte, vcu0, vcu1, vcu2, vcu3, vcu4, vcu5, vcu6, vcu7, vcu8, vcu9, vcu10, vcu11, vcu12, vcu13, vcu14, vcu15, vcu16, vcu17, vcu18, vcu19, vcu20, vcu21, vcu22, vcu23, vcu24, vcu25, vcu26, ↓vcd0, ↓vcd1, ↓vcd2, ↓vcd3]

theorem indexFunc_at (σ : AHeap) (g b : Nat) (lines : Int) (cs : List (Int × Int)) (hg : σ g = some ⟨pairs cs, false⟩) (hb : σ b = some ⟨[.int .i64 lines], false⟩) (hl : cs.length ≤ 1000) :
    ACall Try.prog w0 99 [.slice (some ⟨g, 0, none⟩) cs.length 2, .func (.func 91) #[] #[.pointer (some ⟨b, 0, none⟩)]] σ fun r σ' => σ' = σ ∧
      ((r = .int .i64 (-1) ∧ ∀ c ∈ cs, c.2 < lines) ∨ ∃ k : Nat, r = .int .i64 k ∧ k < cs.length ∧ ¬ (cs.getD k (0, 0)).2 < lines ∧ ∀ c ∈ cs.take k, c.2 < lines) := by
  refine acall_go mixed Try.func99 rfl good99 fun pr => ?_
  simp -implicitDefEqProofs (disch := omega) only [List.any_cons, List.any_nil, Nat.reduceEqDiff, List.map_cons, List.map_nil, Option.map_some, Option.map_none, List.nil_append, ↓reduceIte, vcu0, vcu1, vcu2, vcu3, vcu4, vcu5, vcu6, vcu7, vcu8, vcu9, vcu10, vcu11, vcu12, vcu13, vcu14, vcu15, vcu16, vcu17, vcu18, vcu19, vcu20, vcu21, vcu22, vcu23, vcu24, vcu25, vcu26, ↓vcd0, ↓vcd1, ↓vcd2, ↓vcd3]
  refine vc_loop_c mixed (by kernel_rfl) [0, 1, 7] (fun m a τ => ∃ k : Nat, m + k = cs.length ∧ a 8 = .int .i64 k ∧ τ = σ ∧ ∀ c ∈ cs.take k, c.2 < lines) cs.length ⟨0, by simp, rfl, rfl, by simp⟩ ?_
  rintro m a τ hc ⟨k, hk, h8, rfl, hup⟩
  simp -implicitDefEqProofs (disch := omega) only [List.any_cons, List.any_nil, Nat.reduceEqDiff, List.map_cons, List.map_nil, Option.map_some, Option.map_none, List.nil_append, ↓reduceIte, vcu0, vcu1, vcu2, vcu3, vcu4, vcu5, vcu6, vcu7, vcu8, vcu9, vcu10, vcu11, vcu12, vcu13, vcu14, vcu15, vcu16, vcu17, vcu18, vcu19, vcu20, vcu21, vcu22, vcu23, vcu24, vcu25, vcu26, ↓vcd0, ↓vcd1, ↓vcd2, ↓vcd3] at hc
  obtain ⟨h0, h1, h7, -⟩ := hc
  by_cases hlt : k < cs.length
  · have hx := (pairsAt_own hg).both hlt
    have ht := take_one hlt
    generalize hcc : cs.getD k (0, 0) = c at hx ht
    obtain ⟨A, B⟩ := c
    dsimp only at hx
    rw [Nat.zero_add] at hx
    simp -implicitDefEqProofs (disch := omega) only [List.any_cons, List.any_nil, Nat.reduceEqDiff, List.map_cons, List.map_nil, Option.map_some, Option.map_none, List.nil_append, ↓reduceIte, vcu0, vcu1, vcu2, vcu3, vcu4, vcu5, vcu6, vcu7, vcu8, vcu9, vcu10, vcu11, vcu12, vcu13, vcu14, vcu15, vcu16, vcu17, vcu18, vcu19, vcu20, vcu21, vcu22, vcu23, vcu24, vcu25, vcu26, ↓vcd0, ↓vcd1, ↓vcd2, ↓vcd3, h0, h1, h7, h8, hx, co28, Nat.zero_add]
    refine r_callv ⟨(91, #[.pointer (some ⟨b, 0, none⟩)]), by simp -implicitDefEqProofs (disch := omega) only [List.any_cons, List.any_nil, Nat.reduceEqDiff, List.map_cons, List.map_nil, Option.map_some, Option.map_none, List.nil_append, ↓reduceIte, vcu0, vcu1, vcu2, vcu3, vcu4, vcu5, vcu6, vcu7, vcu8, vcu9, vcu10, vcu11, vcu12, vcu13, vcu14, vcu15, vcu16, vcu17, vcu18, vcu19, vcu20, vcu21, vcu22, vcu23, vcu24, vcu25, vcu26, ↓vcd0, ↓vcd1, ↓vcd2, ↓vcd3, h1], ?_⟩
    simp -implicitDefEqProofs (disch := omega) only [List.any_cons, List.any_nil, Nat.reduceEqDiff, List.map_cons, List.map_nil, Option.map_some, Option.map_none, List.nil_append, ↓reduceIte, vcu0, vcu1, vcu2, vcu3, vcu4, vcu5, vcu6, vcu7, vcu8, vcu9, vcu10, vcu11, vcu12, vcu13, vcu14, vcu15, vcu16, vcu17, vcu18, vcu19, vcu20, vcu21, vcu22, vcu23, vcu24, vcu25, vcu26, ↓vcd0, ↓vcd1, ↓vcd2, ↓vcd3]
    refine (out_at τ b lines A B hb).mono ?_
    rintro r _ ⟨rfl, rfl⟩
    by_cases hB : lines ≤ B
    · rw [decide_eq_true hB]
      simp -implicitDefEqProofs (disch := omega) only [List.any_cons, List.any_nil, Nat.reduceEqDiff, List.map_cons, List.map_nil, Option.map_some, Option.map_none, List.nil_append, ↓reduceIte, vcu0, vcu1, vcu2, vcu3, vcu4, vcu5, vcu6, vcu7, vcu8, vcu9, vcu10, vcu11, vcu12, vcu13, vcu14, vcu15, vcu16, vcu17, vcu18, vcu19, vcu20, vcu21, vcu22, vcu23, vcu24, vcu25, vcu26, ↓vcd0, ↓vcd1, ↓vcd2, ↓vcd3, opK_some, h0, h1, h7, h8]
      refine fin_one Try.results99 ⟨rfl, .inr ⟨k, ?_, hlt, ?_, hup⟩⟩
      · simp -implicitDefEqProofs (disch := omega) only [List.any_cons, List.any_nil, Nat.reduceEqDiff, List.map_cons, List.map_nil, Option.map_some, Option.map_none, List.nil_append, ↓reduceIte, vcu0, vcu1, vcu2, vcu3, vcu4, vcu5, vcu6, vcu7, vcu8, vcu9, vcu10, vcu11, vcu12, vcu13, vcu14, vcu15, vcu16, vcu17, vcu18, vcu19, vcu20, vcu21, vcu22, vcu23, vcu24, vcu25, vcu26, ↓vcd0, ↓vcd1, ↓vcd2, ↓vcd3]
      · rw [hcc]; dsimp only; omega
    · rw [decide_eq_false hB]
      simp -implicitDefEqProofs (disch := omega) only [List.any_cons, List.any_nil, Nat.reduceEqDiff, List.map_cons, List.map_nil, Option.map_some, Option.map_none, List.nil_append, ↓reduceIte, vcu0, vcu1, vcu2, vcu3, vcu4, vcu5, vcu6, vcu7, vcu8, vcu9, vcu10, vcu11, vcu12, vcu13, vcu14, vcu15, vcu16, vcu17, vcu18, vcu19, vcu20, vcu21, vcu22, vcu23, vcu24, vcu25, vcu26, ↓vcd0, ↓vcd1, ↓vcd2, ↓vcd3, opK_some, h0, h1, h7, h8]
      refine ⟨⟨trivial, trivial, trivial, trivial⟩, m - 1, by omega, k + 1, by omega, by simp, trivial, fun c hc => ?_⟩
      rw [ht] at hc
      rcases List.mem_append.1 hc with hc | hc
      · exact hup c hc
      · rw [List.mem_singleton] at hc; subst hc; dsimp only; omega
  · simp -implicitDefEqProofs (disch := omega) only [List.any_cons, List.any_nil, Nat.reduceEqDiff, List.map_cons, List.map_nil, Option.map_some, Option.map_none, List.nil_append, ↓reduceIte, vcu0, vcu1, vcu2, vcu3, vcu4, vcu5, vcu6, vcu7, vcu8, vcu9, vcu10, vcu11, vcu12, vcu13, vcu14, vcu15, vcu16, vcu17, vcu18, vcu19, vcu20, vcu21, vcu22, vcu23, vcu24, vcu25, vcu26, ↓vcd0, ↓vcd1, ↓vcd2, ↓vcd3, h0, h1, h7, h8]
    have e : k = cs.length := by omega
    subst e
    rw [List.take_length] at hup
    refine fin_one Try.results99 ⟨rfl, .inl ⟨?_, hup⟩⟩
    simp -implicitDefEqProofs (disch := omega) only [List.any_cons, List.any_nil, Nat.reduceEqDiff, List.map_cons, List.map_nil, Option.map_some, Option.map_none, List.nil_append, ↓reduceIte, vcu0, vcu1, vcu2, vcu3, vcu4, vcu5, vcu6, vcu7, vcu8, vcu9, vcu10, vcu11, vcu12, vcu13, vcu14, vcu15, vcu16, vcu17, vcu18, vcu19, vcu20, vcu21, vcu22, vcu23, vcu24, vcu25, vcu26, ↓vcd0, ↓vcd1, ↓vcd2, ↓vcd3]

theorem pairs_take (L : List (Int × Int)) (i : Nat) : (pairs L).take (i * 2) = pairs (L.take i) := by
  induction L generalizing i with
  | nil => simp [pairs]
  | cons c L ih =>
    cases i with
    | zero => simp [pairs]
    | succ i =>
      rw [pairs_cons, List.take_succ_cons, pairs_cons, show (i + 1) * 2 = i * 2 + 1 + 1 by omega, List.take_succ_cons, List.take_succ_cons, ih]
def keepP (lines : Int) (cs : List (Int × Int)) : List (Int × Int) := cs.filter fun c => decide (c.2 < lines)
theorem keepP_all {lines : Int} {cs : List (Int × Int)} (h : ∀ c ∈ cs, c.2 < lines) : keepP lines cs = cs := by
  unfold keepP; rw [List.filter_eq_self]; exact fun c hc => decide_eq_true (h c hc)
theorem keepP_snoc (lines : Int) (cs : List (Int × Int)) (c : Int × Int) : keepP lines (cs ++ [c]) = keepP lines cs ++ if c.2 < lines then [c] else [] := by
  unfold keepP
  rw [List.filter_append]
  by_cases h : c.2 < lines <;> simp [h]

theorem deleteFunc_at (σ : AHeap) (g b : Nat) (lines : Int) (cs : List (Int × Int)) (hg : σ g = some ⟨pairs cs, false⟩) (hb : σ b = some ⟨[.int .i64 lines], false⟩) (hgb : b ≠ g) (hl : cs.length ≤ 1000) :
    ACall Try.prog w0 89 [.slice (some ⟨g, 0, none⟩) cs.length 2, .func (.func 91) #[] #[.pointer (some ⟨b, 0, none⟩)]] σ fun r σ' =>
      r = .slice (some ⟨g, 0, none⟩) (keepP lines cs).length 2 ∧ Kept g σ σ' ∧ ∃ C, σ' g = some ⟨pairs (keepP lines cs) ++ C, false⟩ := by
  refine acall_go mixed Try.func89 rfl good89 fun pr => ?_
  simp -implicitDefEqProofs (disch := omega) only [List.any_cons, List.any_nil, Nat.reduceEqDiff, List.map_cons, List.map_nil, Option.map_some, Option.map_none, List.nil_append, ↓reduceIte, vcu0, vcu1, vcu2, vcu3, vcu4, vcu5, vcu6, vcu7, vcu8, vcu9, vcu10, vcu11, vcu12, vcu13, vcu14, vcu15, vcu16, vcu17, vcu18, vcu19, vcu20, vcu21, vcu22, vcu23, vcu24, vcu25, vcu26, ↓vcd0, ↓vcd1, ↓vcd2, ↓vcd3]
  refine (indexFunc_at σ g b lines cs hg hb hl).mono ?_
  rintro r _ ⟨rfl, ⟨rfl, hall⟩ | ⟨k, rfl, hk, hnk, hup⟩⟩
  · simp -implicitDefEqProofs (disch := omega) only [List.any_cons, List.any_nil, Nat.reduceEqDiff, List.map_cons, List.map_nil, Option.map_some, Option.map_none, List.nil_append, ↓reduceIte, vcu0, vcu1, vcu2, vcu3, vcu4, vcu5, vcu6, vcu7, vcu8, vcu9, vcu10, vcu11, vcu12, vcu13, vcu14, vcu15, vcu16, vcu17, vcu18, vcu19, vcu20, vcu21, vcu22, vcu23, vcu24, vcu25, vcu26, ↓vcd0, ↓vcd1, ↓vcd2, ↓vcd3, opK_some]
    refine fin_one Try.results89 ⟨?_, Kept.refl _ _, [], ?_⟩
    · simp -implicitDefEqProofs (disch := omega) only [List.any_cons, List.any_nil, Nat.reduceEqDiff, List.map_cons, List.map_nil, Option.map_some, Option.map_none, List.nil_append, ↓reduceIte, vcu0, vcu1, vcu2, vcu3, vcu4, vcu5, vcu6, vcu7, vcu8, vcu9, vcu10, vcu11, vcu12, vcu13, vcu14, vcu15, vcu16, vcu17, vcu18, vcu19, vcu20, vcu21, vcu22, vcu23, vcu24, vcu25, vcu26, ↓vcd0, ↓vcd1, ↓vcd2, ↓vcd3]
      rw [keepP_all hall]
    · rw [keepP_all hall, List.append_nil]; exact hg
  · rename_i σ
    have hk0 : (keepP lines (cs.take (k + 1))) = cs.take k := by
      rw [take_one hk, keepP_snoc, keepP_all hup, if_neg hnk, List.append_nil]
    simp -implicitDefEqProofs (disch := omega) only [List.any_cons, List.any_nil, Nat.reduceEqDiff, List.map_cons, List.map_nil, Option.map_some, Option.map_none, List.nil_append, ↓reduceIte, vcu0, vcu1, vcu2, vcu3, vcu4, vcu5, vcu6, vcu7, vcu8, vcu9, vcu10, vcu11, vcu12, vcu13, vcu14, vcu15, vcu16, vcu17, vcu18, vcu19, vcu20, vcu21, vcu22, vcu23, vcu24, vcu25, vcu26, ↓vcd0, ↓vcd1, ↓vcd2, ↓vcd3, opK_some]
    refine vc_loop_c mixed (by kernel_rfl) [0, 1] (fun m a τ => ∃ (j i : Nat) (L : List (Int × Int)), m + j = cs.length ∧ a 6 = .int .i64 j ∧ a 5 = .int .i64 i ∧ i < j ∧ j ≤ cs.length ∧ L.length = cs.length ∧ L.take i = keepP lines (cs.take j) ∧ L.drop j = cs.drop j ∧ Kept g σ τ ∧ τ g = some ⟨pairs L, false⟩)
      (cs.length - (k + 1)) ⟨k + 1, k, cs, by omega, rfl, rfl, by omega, by omega, rfl, hk0.symm, rfl, Kept.refl _ _, hg⟩ ?_
    rintro m a τ hc ⟨j, i, L, hj, h6, h5, hij, hjl, hL, hLt, hLd, hkp, hgL⟩
    simp -implicitDefEqProofs (disch := omega) only [List.any_cons, List.any_nil, Nat.reduceEqDiff, List.map_cons, List.map_nil, Option.map_some, Option.map_none, List.nil_append, ↓reduceIte, vcu0, vcu1, vcu2, vcu3, vcu4, vcu5, vcu6, vcu7, vcu8, vcu9, vcu10, vcu11, vcu12, vcu13, vcu14, vcu15, vcu16, vcu17, vcu18, vcu19, vcu20, vcu21, vcu22, vcu23, vcu24, vcu25, vcu26, ↓vcd0, ↓vcd1, ↓vcd2, ↓vcd3] at hc
    obtain ⟨h0, h1, -⟩ := hc
    have hbτ := hkp.at hb hgb
    by_cases hlt : j < cs.length
    · have hLj : L.getD j (0, 0) = cs.getD j (0, 0) := by
        have e1 : (L.drop j)[0]? = (cs.drop j)[0]? := by rw [hLd]
        rw [List.getElem?_drop, List.getElem?_drop, Nat.add_zero] at e1
        simp only [List.getD, e1]
      have hx := (pairsAt_own hgL).both (show j < L.length by omega)
      rw [hLj, Nat.zero_add] at hx
      have ht := take_one hlt
      generalize cs.getD j (0, 0) = c at hx ht
      obtain ⟨A, B⟩ := c
      dsimp only at hx
      have hkj := keepP_snoc lines (cs.take j) (A, B)
      rw [← ht] at hkj
      simp -implicitDefEqProofs (disch := omega) only [List.any_cons, List.any_nil, Nat.reduceEqDiff, List.map_cons, List.map_nil, Option.map_some, Option.map_none, List.nil_append, ↓reduceIte, vcu0, vcu1, vcu2, vcu3, vcu4, vcu5, vcu6, vcu7, vcu8, vcu9, vcu10, vcu11, vcu12, vcu13, vcu14, vcu15, vcu16, vcu17, vcu18, vcu19, vcu20, vcu21, vcu22, vcu23, vcu24, vcu25, vcu26, ↓vcd0, ↓vcd1, ↓vcd2, ↓vcd3, h0, h1, h5, h6, hx, co28, Nat.zero_add]
      refine r_local (cs := #[.int .i64 A, .int .i64 B]) ze28 (by decide) (by simp -implicitDefEqProofs (disch := omega) only [List.any_cons, List.any_nil, Nat.reduceEqDiff, List.map_cons, List.map_nil, Option.map_some, Option.map_none, List.nil_append, ↓reduceIte, vcu0, vcu1, vcu2, vcu3, vcu4, vcu5, vcu6, vcu7, vcu8, vcu9, vcu10, vcu11, vcu12, vcu13, vcu14, vcu15, vcu16, vcu17, vcu18, vcu19, vcu20, vcu21, vcu22, vcu23, vcu24, vcu25, vcu26, ↓vcd0, ↓vcd1, ↓vcd2, ↓vcd3]) (by rw [co28]; rfl) rfl rfl (Nat.zero_lt_succ _) fun q τ2 nq sq eq => ?_
      have hl3 : lds τ2 q 0 2 = some [.int .i64 A, .int .i64 B] := lds_two (ld_of eq rfl) (ld_of eq rfl)
      have hqg : q ≠ g := ne_of nq hgL
      simp -implicitDefEqProofs (disch := omega) only [List.any_cons, List.any_nil, Nat.reduceEqDiff, List.map_cons, List.map_nil, Option.map_some, Option.map_none, List.nil_append, ↓reduceIte, vcu0, vcu1, vcu2, vcu3, vcu4, vcu5, vcu6, vcu7, vcu8, vcu9, vcu10, vcu11, vcu12, vcu13, vcu14, vcu15, vcu16, vcu17, vcu18, vcu19, vcu20, vcu21, vcu22, vcu23, vcu24, vcu25, vcu26, ↓vcd0, ↓vcd1, ↓vcd2, ↓vcd3, h0, h1, h5, h6, hl3, co28]
      refine r_callv ⟨(91, #[.pointer (some ⟨b, 0, none⟩)]), by simp -implicitDefEqProofs (disch := omega) only [List.any_cons, List.any_nil, Nat.reduceEqDiff, List.map_cons, List.map_nil, Option.map_some, Option.map_none, List.nil_append, ↓reduceIte, vcu0, vcu1, vcu2, vcu3, vcu4, vcu5, vcu6, vcu7, vcu8, vcu9, vcu10, vcu11, vcu12, vcu13, vcu14, vcu15, vcu16, vcu17, vcu18, vcu19, vcu20, vcu21, vcu22, vcu23, vcu24, vcu25, vcu26, ↓vcd0, ↓vcd1, ↓vcd2, ↓vcd3, h1], ?_⟩
      simp -implicitDefEqProofs (disch := omega) only [List.any_cons, List.any_nil, Nat.reduceEqDiff, List.map_cons, List.map_nil, Option.map_some, Option.map_none, List.nil_append, ↓reduceIte, vcu0, vcu1, vcu2, vcu3, vcu4, vcu5, vcu6, vcu7, vcu8, vcu9, vcu10, vcu11, vcu12, vcu13, vcu14, vcu15, vcu16, vcu17, vcu18, vcu19, vcu20, vcu21, vcu22, vcu23, vcu24, vcu25, vcu26, ↓vcd0, ↓vcd1, ↓vcd2, ↓vcd3]
      refine (out_at τ2 b lines A B (sq _ _ hbτ)).mono ?_
      rintro r _ ⟨rfl, rfl⟩
      rename_i τ2
      by_cases hB : lines ≤ B
      · rw [decide_eq_true hB]
        have hnb : ¬ B < lines := by omega
        rw [if_neg hnb, List.append_nil] at hkj
        simp -implicitDefEqProofs (disch := omega) only [List.any_cons, List.any_nil, Nat.reduceEqDiff, List.map_cons, List.map_nil, Option.map_some, Option.map_none, List.nil_append, ↓reduceIte, vcu0, vcu1, vcu2, vcu3, vcu4, vcu5, vcu6, vcu7, vcu8, vcu9, vcu10, vcu11, vcu12, vcu13, vcu14, vcu15, vcu16, vcu17, vcu18, vcu19, vcu20, vcu21, vcu22, vcu23, vcu24, vcu25, vcu26, ↓vcd0, ↓vcd1, ↓vcd2, ↓vcd3, opK_some, h0, h1, h5, h6]
        refine ⟨⟨trivial, trivial, trivial⟩, m - 1, by omega, j + 1, i, L, by omega, by simp, by simp, by omega, by omega, hL, by rw [hkj]; exact hLt, ?_, hkp.trans sq.kept, sq _ _ hgL⟩
        rw [← List.drop_drop, ← List.drop_drop, hLd]
      · rw [decide_eq_false hB]
        rw [if_pos (show B < lines by omega)] at hkj
        simp -implicitDefEqProofs (disch := omega) only [List.any_cons, List.any_nil, Nat.reduceEqDiff, List.map_cons, List.map_nil, Option.map_some, Option.map_none, List.nil_append, ↓reduceIte, vcu0, vcu1, vcu2, vcu3, vcu4, vcu5, vcu6, vcu7, vcu8, vcu9, vcu10, vcu11, vcu12, vcu13, vcu14, vcu15, vcu16, vcu17, vcu18, vcu19, vcu20, vcu21, vcu22, vcu23, vcu24, vcu25, vcu26, ↓vcd0, ↓vcd1, ↓vcd2, ↓vcd3, opK_some, h0, h1, h5, h6, hl3, co28]
        refine r_sets (g := g) (i := i * 2) (C := pairs L) (by simp -implicitDefEqProofs (disch := omega) only [List.any_cons, List.any_nil, Nat.reduceEqDiff, List.map_cons, List.map_nil, Option.map_some, Option.map_none, List.nil_append, ↓reduceIte, vcu0, vcu1, vcu2, vcu3, vcu4, vcu5, vcu6, vcu7, vcu8, vcu9, vcu10, vcu11, vcu12, vcu13, vcu14, vcu15, vcu16, vcu17, vcu18, vcu19, vcu20, vcu21, vcu22, vcu23, vcu24, vcu25, vcu26, ↓vcd0, ↓vcd1, ↓vcd2, ↓vcd3, Nat.zero_add]) (by simp -implicitDefEqProofs (disch := omega) only [List.any_cons, List.any_nil, Nat.reduceEqDiff, List.map_cons, List.map_nil, Option.map_some, Option.map_none, List.nil_append, ↓reduceIte, vcu0, vcu1, vcu2, vcu3, vcu4, vcu5, vcu6, vcu7, vcu8, vcu9, vcu10, vcu11, vcu12, vcu13, vcu14, vcu15, vcu16, vcu17, vcu18, vcu19, vcu20, vcu21, vcu22, vcu23, vcu24, vcu25, vcu26, ↓vcd0, ↓vcd1, ↓vcd2, ↓vcd3, co28]; rfl) (by simp -implicitDefEqProofs (disch := omega) only [List.any_cons, List.any_nil, Nat.reduceEqDiff, List.map_cons, List.map_nil, Option.map_some, Option.map_none, List.nil_append, ↓reduceIte, vcu0, vcu1, vcu2, vcu3, vcu4, vcu5, vcu6, vcu7, vcu8, vcu9, vcu10, vcu11, vcu12, vcu13, vcu14, vcu15, vcu16, vcu17, vcu18, vcu19, vcu20, vcu21, vcu22, vcu23, vcu24, vcu25, vcu26, ↓vcd0, ↓vcd1, ↓vcd2, ↓vcd3]; rfl) (by simp -implicitDefEqProofs (disch := omega) only [List.any_cons, List.any_nil, Nat.reduceEqDiff, List.map_cons, List.map_nil, Option.map_some, Option.map_none, List.nil_append, ↓reduceIte, vcu0, vcu1, vcu2, vcu3, vcu4, vcu5, vcu6, vcu7, vcu8, vcu9, vcu10, vcu11, vcu12, vcu13, vcu14, vcu15, vcu16, vcu17, vcu18, vcu19, vcu20, vcu21, vcu22, vcu23, vcu24, vcu25, vcu26, ↓vcd0, ↓vcd1, ↓vcd2, ↓vcd3]; exact Nat.zero_lt_succ _) (sq _ _ hgL) (by simp -implicitDefEqProofs (disch := omega) only [List.any_cons, List.any_nil, Nat.reduceEqDiff, List.map_cons, List.map_nil, Option.map_some, Option.map_none, List.nil_append, ↓reduceIte, vcu0, vcu1, vcu2, vcu3, vcu4, vcu5, vcu6, vcu7, vcu8, vcu9, vcu10, vcu11, vcu12, vcu13, vcu14, vcu15, vcu16, vcu17, vcu18, vcu19, vcu20, vcu21, vcu22, vcu23, vcu24, vcu25, vcu26, ↓vcd0, ↓vcd1, ↓vcd2, ↓vcd3]; rw [pairs_length]; show i * 2 + 2 ≤ _; omega) fun τ3 k3 e3 => ?_
        replace e3 : τ3 g = some ⟨lwrite (pairs L) (i * 2) [.int .i64 A, .int .i64 B], false⟩ := by rw [e3]; simp -implicitDefEqProofs (disch := omega) only [List.any_cons, List.any_nil, Nat.reduceEqDiff, List.map_cons, List.map_nil, Option.map_some, Option.map_none, List.nil_append, ↓reduceIte, vcu0, vcu1, vcu2, vcu3, vcu4, vcu5, vcu6, vcu7, vcu8, vcu9, vcu10, vcu11, vcu12, vcu13, vcu14, vcu15, vcu16, vcu17, vcu18, vcu19, vcu20, vcu21, vcu22, vcu23, vcu24, vcu25, vcu26, ↓vcd0, ↓vcd1, ↓vcd2, ↓vcd3]; rfl
        rw [pairs_set _ _ (by omega)] at e3
        simp -implicitDefEqProofs (disch := omega) only [List.any_cons, List.any_nil, Nat.reduceEqDiff, List.map_cons, List.map_nil, Option.map_some, Option.map_none, List.nil_append, ↓reduceIte, vcu0, vcu1, vcu2, vcu3, vcu4, vcu5, vcu6, vcu7, vcu8, vcu9, vcu10, vcu11, vcu12, vcu13, vcu14, vcu15, vcu16, vcu17, vcu18, vcu19, vcu20, vcu21, vcu22, vcu23, vcu24, vcu25, vcu26, ↓vcd0, ↓vcd1, ↓vcd2, ↓vcd3, h0, h1, h5, h6]
        refine ⟨⟨trivial, trivial, trivial⟩, m - 1, by omega, j + 1, i + 1, L.set i (A, B), by omega, by simp, by simp, by omega, by omega, by rw [List.length_set]; exact hL, ?_, ?_, (hkp.trans sq.kept).trans k3, e3⟩
        · rw [hkj, ← hLt, List.take_succ_eq_append_getElem (by rw [List.length_set]; omega), List.take_set_of_le (Nat.le_refl _)]
          simp
        · rw [List.drop_set_of_lt (by omega), ← List.drop_drop, ← List.drop_drop, hLd]
    · have e : j = cs.length := by omega
      subst e
      rw [List.take_length] at hLt
      have hil : (keepP lines cs).length = i := by rw [← hLt, List.length_take]; omega
      simp -implicitDefEqProofs (disch := omega) only [List.any_cons, List.any_nil, Nat.reduceEqDiff, List.map_cons, List.map_nil, Option.map_some, Option.map_none, List.nil_append, ↓reduceIte, vcu0, vcu1, vcu2, vcu3, vcu4, vcu5, vcu6, vcu7, vcu8, vcu9, vcu10, vcu11, vcu12, vcu13, vcu14, vcu15, vcu16, vcu17, vcu18, vcu19, vcu20, vcu21, vcu22, vcu23, vcu24, vcu25, vcu26, ↓vcd0, ↓vcd1, ↓vcd2, ↓vcd3, h0, h1, h5, h6]
      have hst : sts τ g (0 + i * 2) (azeros (.agg #[.int .i64 0, .int .i64 0]) ((cs.length - i) * 2)) = some (τ.upd g (some ⟨lwrite (pairs L) (0 + i * 2) (pairs (List.replicate (cs.length - i) (0, 0))), false⟩)) := by
        rw [azeros_pairs]
        unfold sts
        rw [hgL]
        simp only [Option.bind_some]
        rw [if_pos ⟨trivial, by rw [pairs_length, pairs_length, List.length_replicate]; omega, by rw [pairs_length, List.length_replicate]; omega⟩]
      have hall : (azeros (.agg #[.int .i64 0, .int .i64 0]) ((cs.length - i) * 2)).all Value.oneCell' = true := by rw [azeros_pairs]; exact pairs_one _
      refine r_clear_at (e := 28) (i := Try.t28) (z := .agg #[.int .i64 0, .int .i64 0]) (h := g) (b := 0 + i * 2) (len := cs.length - i) Try.underlying23 rfl rfl (by simp -implicitDefEqProofs (disch := omega) only [List.any_cons, List.any_nil, Nat.reduceEqDiff, List.map_cons, List.map_nil, Option.map_some, Option.map_none, List.nil_append, ↓reduceIte, vcu0, vcu1, vcu2, vcu3, vcu4, vcu5, vcu6, vcu7, vcu8, vcu9, vcu10, vcu11, vcu12, vcu13, vcu14, vcu15, vcu16, vcu17, vcu18, vcu19, vcu20, vcu21, vcu22, vcu23, vcu24, vcu25, vcu26, ↓vcd0, ↓vcd1, ↓vcd2, ↓vcd3, Int.toNat_natCast]; rfl) (.inr ⟨hall, hst⟩) ?_
      simp -implicitDefEqProofs (disch := omega) only [List.any_cons, List.any_nil, Nat.reduceEqDiff, List.map_cons, List.map_nil, Option.map_some, Option.map_none, List.nil_append, ↓reduceIte, vcu0, vcu1, vcu2, vcu3, vcu4, vcu5, vcu6, vcu7, vcu8, vcu9, vcu10, vcu11, vcu12, vcu13, vcu14, vcu15, vcu16, vcu17, vcu18, vcu19, vcu20, vcu21, vcu22, vcu23, vcu24, vcu25, vcu26, ↓vcd0, ↓vcd1, ↓vcd2, ↓vcd3, h0, h5]
      refine fin_one Try.results89 ⟨?_, fun x ob hx e => ?_, pairs (List.replicate (cs.length - i) (0, 0)) ++ (pairs L).drop (i * 2 + (pairs (List.replicate (cs.length - i) (0, 0))).length), ?_⟩
      · simp -implicitDefEqProofs (disch := omega) only [List.any_cons, List.any_nil, Nat.reduceEqDiff, List.map_cons, List.map_nil, Option.map_some, Option.map_none, List.nil_append, ↓reduceIte, vcu0, vcu1, vcu2, vcu3, vcu4, vcu5, vcu6, vcu7, vcu8, vcu9, vcu10, vcu11, vcu12, vcu13, vcu14, vcu15, vcu16, vcu17, vcu18, vcu19, vcu20, vcu21, vcu22, vcu23, vcu24, vcu25, vcu26, ↓vcd0, ↓vcd1, ↓vcd2, ↓vcd3, Int.toNat_natCast]
        rw [hil]
      · rw [AHeap.upd_ne _ _ hx]; exact hkp x ob hx e
      · rw [AHeap.upd_same, Nat.zero_add]
        unfold lwrite
        rw [pairs_take, hLt, List.append_assoc]

theorem deleteFunc_calls (β σ : AHeap) (v : Value) (b : Nat) (lines : Int) (cs : List (Int × Int)) (hs : Sub β σ) (hv : OwnP β σ v cs) (hb : σ b = some ⟨[.int .i64 lines], false⟩) (hbβ : β b ≠ none ∨ b = b) (hl : cs.length ≤ 1000) (hne : ∀ g, σ g = some ⟨pairs cs, false⟩ → b ≠ g) :
    ACall Try.prog w0 89 [v, .func (.func 91) #[] #[.pointer (some ⟨b, 0, none⟩)]] σ fun r σ' => Sub β σ' ∧ OwnP β σ' r (keepP lines cs) := by
  rcases hv with ⟨rfl, rfl⟩ | ⟨g, rfl, hg, hn⟩
  · refine ACall.nil_arg (pre := []) (z := 2) (by kernel_rfl) fun g hg => ?_
    have hbg : b ≠ g := ne_of' hg hb
    refine (deleteFunc_at _ g b lines [] (AHeap.upd_same _ _ _) (by rw [AHeap.upd_ne _ _ hbg]; exact hb) hbg (by simp)).shrink ?_
    rintro r σ' ⟨rfl, hk, C, hC⟩
    refine ⟨g, _, C, hC, fun x ob e => ?_, .inr ⟨g, rfl, AHeap.upd_same _ _ _, free_sub hs hg⟩⟩
    have hx : x ≠ g := by rintro rfl; rw [hs _ _ e] at hg; cases hg
    rw [AHeap.upd_ne _ _ hx]
    exact hk x ob hx (by rw [AHeap.upd_ne _ _ hx]; exact hs _ _ e)
  · refine (deleteFunc_at σ g b lines cs hg hb (hne g hg) hl).shrink ?_
    rintro r σ' ⟨rfl, hk, C, hC⟩
    refine ⟨g, _, C, hC, fun x ob e => ?_, .inr ⟨g, rfl, AHeap.upd_same _ _ _, hn⟩⟩
    have hx : x ≠ g := by rintro rfl; rw [e] at hn; cases hn
    rw [AHeap.upd_ne _ _ hx]
    exact hk x ob hx (hs _ _ e)

def pwr (lines : Int) : Nat := if lines ≤ 1 then 0 else if lines ≤ 2 then 1 else if lines ≤ 4 then 2 else 3
theorem mrg_all : ([1, 2, 3, 4, 5, 6] : List Nat).all (fun n => keepP n (bti (pwr n) 0) == mrgV n) = true := by kernel_rfl
theorem mrg_eq {n : Nat} (h1 : 1 ≤ n) (h6 : n ≤ 6) : keepP n (bti (pwr n) 0) = mrgV n := by
  have := List.all_eq_true.1 mrg_all n (by have : n = 1 ∨ n = 2 ∨ n = 3 ∨ n = 4 ∨ n = 5 ∨ n = 6 := by omega
                                           rcases this with rfl | rfl | rfl | rfl | rfl | rfl <;> simp)
  simpa using this
theorem bti_comp (f : Nat) (first : Int) (hf : f ≤ 3) (lines : Int) : pairs (bti f first) ≠ [.int .i64 lines] := by
  intro e
  have := congrArg List.length e
  rw [pairs_length] at this
  simp at this
  omega

theorem implMrg_at (σ : AHeap) (lines : Int) (hr : InR lines) : ACall Try.prog w0 59 [.int .i64 lines] σ fun r σ' => Sub σ σ' ∧ OwnP σ σ' r (mrgV lines) := by
  refine acall_go mixed Try.func59 rfl good59 fun pr => ?_
  simp -implicitDefEqProofs (disch := omega) only [List.any_cons, List.any_nil, Nat.reduceEqDiff, List.map_cons, List.map_nil, Option.map_some, Option.map_none, List.nil_append, ↓reduceIte, vcu0, vcu1, vcu2, vcu3, vcu4, vcu5, vcu6, vcu7, vcu8, vcu9, vcu10, vcu11, vcu12, vcu13, vcu14, vcu15, vcu16, vcu17, vcu18, vcu19, vcu20, vcu21, vcu22, vcu23, vcu24, vcu25, vcu26, ↓vcd0, ↓vcd1, ↓vcd2, ↓vcd3]
  refine r_boxed fun b τ nb sb eb => ?_
  replace eb : τ b = some ⟨[.int .i64 lines], false⟩ := eb
  have lb : ld τ b 0 = some (.int .i64 lines) := ld_of eb rfl
  by_cases hS : Six lines
  · have hS' := hS
    unfold Six at hS
    obtain ⟨n, rfl⟩ : ∃ n : Nat, lines = n := ⟨lines.toNat, by omega⟩
    have heq := mrg_eq (n := n) (by omega) (by omega)
    have hF : pwr n = 0 ∧ n = 1 ∨ pwr n = 1 ∧ n = 2 ∨ pwr n = 2 ∧ (n = 3 ∨ n = 4) ∨ pwr n = 3 ∧ (n = 5 ∨ n = 6) := by
      have : n = 1 ∨ n = 2 ∨ n = 3 ∨ n = 4 ∨ n = 5 ∨ n = 6 := by omega
      rcases this with rfl | rfl | rfl | rfl | rfl | rfl <;> decide
    generalize pwr n = F at heq hF
    simp -implicitDefEqProofs (disch := omega) only [List.any_cons, List.any_nil, Nat.reduceEqDiff, List.map_cons, List.map_nil, Option.map_some, Option.map_none, List.nil_append, ↓reduceIte, vcu0, vcu1, vcu2, vcu3, vcu4, vcu5, vcu6, vcu7, vcu8, vcu9, vcu10, vcu11, vcu12, vcu13, vcu14, vcu15, vcu16, vcu17, vcu18, vcu19, vcu20, vcu21, vcu22, vcu23, vcu24, vcu25, vcu26, ↓vcd0, ↓vcd1, ↓vcd2, ↓vcd3, lb]
    refine vc_loop_c mixed (by kernel_rfl) [1] (fun m a τ' => ∃ j : Nat, m + j = F ∧ a 3 = .int .i64 (2 ^ j : Nat) ∧ τ' = τ) F ⟨0, by simp, rfl, rfl⟩ ?_
    rintro m a τ' hc ⟨j, hj, h3, rfl⟩
    simp -implicitDefEqProofs (disch := omega) only [List.any_cons, List.any_nil, Nat.reduceEqDiff, List.map_cons, List.map_nil, Option.map_some, Option.map_none, List.nil_append, ↓reduceIte, vcu0, vcu1, vcu2, vcu3, vcu4, vcu5, vcu6, vcu7, vcu8, vcu9, vcu10, vcu11, vcu12, vcu13, vcu14, vcu15, vcu16, vcu17, vcu18, vcu19, vcu20, vcu21, vcu22, vcu23, vcu24, vcu25, vcu26, ↓vcd0, ↓vcd1, ↓vcd2, ↓vcd3] at hc
    obtain ⟨h1, -⟩ := hc
    have hj4 : j = 0 ∨ j = 1 ∨ j = 2 ∨ j = 3 := by omega
    by_cases hlt : j < F
    · rcases hj4 with rfl | rfl | rfl | rfl
      · simp only [Nat.reducePow, Int.cast_ofNat_Int] at h3
        simp -implicitDefEqProofs (disch := omega) only [List.any_cons, List.any_nil, Nat.reduceEqDiff, List.map_cons, List.map_nil, Option.map_some, Option.map_none, List.nil_append, ↓reduceIte, vcu0, vcu1, vcu2, vcu3, vcu4, vcu5, vcu6, vcu7, vcu8, vcu9, vcu10, vcu11, vcu12, vcu13, vcu14, vcu15, vcu16, vcu17, vcu18, vcu19, vcu20, vcu21, vcu22, vcu23, vcu24, vcu25, vcu26, ↓vcd0, ↓vcd1, ↓vcd2, ↓vcd3, h1, h3, lb]
        exact ⟨⟨trivial, trivial⟩, m - 1, by omega, 1, by omega, by simp, trivial⟩
      · simp only [Nat.reducePow, Int.cast_ofNat_Int] at h3
        simp -implicitDefEqProofs (disch := omega) only [List.any_cons, List.any_nil, Nat.reduceEqDiff, List.map_cons, List.map_nil, Option.map_some, Option.map_none, List.nil_append, ↓reduceIte, vcu0, vcu1, vcu2, vcu3, vcu4, vcu5, vcu6, vcu7, vcu8, vcu9, vcu10, vcu11, vcu12, vcu13, vcu14, vcu15, vcu16, vcu17, vcu18, vcu19, vcu20, vcu21, vcu22, vcu23, vcu24, vcu25, vcu26, ↓vcd0, ↓vcd1, ↓vcd2, ↓vcd3, h1, h3, lb]
        exact ⟨⟨trivial, trivial⟩, m - 1, by omega, 2, by omega, by simp, trivial⟩
      · simp only [Nat.reducePow, Int.cast_ofNat_Int] at h3
        simp -implicitDefEqProofs (disch := omega) only [List.any_cons, List.any_nil, Nat.reduceEqDiff, List.map_cons, List.map_nil, Option.map_some, Option.map_none, List.nil_append, ↓reduceIte, vcu0, vcu1, vcu2, vcu3, vcu4, vcu5, vcu6, vcu7, vcu8, vcu9, vcu10, vcu11, vcu12, vcu13, vcu14, vcu15, vcu16, vcu17, vcu18, vcu19, vcu20, vcu21, vcu22, vcu23, vcu24, vcu25, vcu26, ↓vcd0, ↓vcd1, ↓vcd2, ↓vcd3, h1, h3, lb]
        exact ⟨⟨trivial, trivial⟩, m - 1, by omega, 3, by omega, by simp, trivial⟩
      · omega
    · have e : j = F := by omega
      subst e
      have hms := fun τ => mergeSort_at (w0 := w0) j τ 0 (by omega) (by omega) (by omega)
      have hp : (n : Int) ≤ ((2 ^ j : Nat) : Int) := by rcases hj4 with rfl | rfl | rfl | rfl <;> simp <;> omega
      generalize 2 ^ j = N at hms hp h3
      simp -implicitDefEqProofs (disch := omega) only [List.any_cons, List.any_nil, Nat.reduceEqDiff, List.map_cons, List.map_nil, Option.map_some, Option.map_none, List.nil_append, ↓reduceIte, vcu0, vcu1, vcu2, vcu3, vcu4, vcu5, vcu6, vcu7, vcu8, vcu9, vcu10, vcu11, vcu12, vcu13, vcu14, vcu15, vcu16, vcu17, vcu18, vcu19, vcu20, vcu21, vcu22, vcu23, vcu24, vcu25, vcu26, ↓vcd0, ↓vcd1, ↓vcd2, ↓vcd3, h1, h3, lb]
      refine (hms _).mono ?_
      rintro v τ2 ⟨s2, hv⟩
      simp -implicitDefEqProofs (disch := omega) only [List.any_cons, List.any_nil, Nat.reduceEqDiff, List.map_cons, List.map_nil, Option.map_some, Option.map_none, List.nil_append, ↓reduceIte, vcu0, vcu1, vcu2, vcu3, vcu4, vcu5, vcu6, vcu7, vcu8, vcu9, vcu10, vcu11, vcu12, vcu13, vcu14, vcu15, vcu16, vcu17, vcu18, vcu19, vcu20, vcu21, vcu22, vcu23, vcu24, vcu25, vcu26, ↓vcd0, ↓vcd1, ↓vcd2, ↓vcd3, opK_some, h1, h3]
      have hbl := bti_length j 0 (by omega)
      have hbl2 : 60 * j * j ≤ 540 := by rcases hj4 with rfl | rfl | rfl | rfl <;> omega
      refine (deleteFunc_calls σ τ2 v b n (bti j 0) (sb.trans s2) (hv.imp id fun ⟨g, a, b, c⟩ => ⟨g, a, b, free_sub sb c⟩) (s2 _ _ eb) (.inr rfl) (by omega) (fun g hg e => ?_)).mono ?_
      · subst e
        rw [s2 _ _ eb] at hg
        injection hg with hg
        injection hg with hg _
        exact bti_comp j 0 (by omega) n hg.symm
      rintro r τ3 ⟨s3, hr3⟩
      simp -implicitDefEqProofs (disch := omega) only [List.any_cons, List.any_nil, Nat.reduceEqDiff, List.map_cons, List.map_nil, Option.map_some, Option.map_none, List.nil_append, ↓reduceIte, vcu0, vcu1, vcu2, vcu3, vcu4, vcu5, vcu6, vcu7, vcu8, vcu9, vcu10, vcu11, vcu12, vcu13, vcu14, vcu15, vcu16, vcu17, vcu18, vcu19, vcu20, vcu21, vcu22, vcu23, vcu24, vcu25, vcu26, ↓vcd0, ↓vcd1, ↓vcd2, ↓vcd3, opK_some]
      refine fin_one Try.results59 ⟨s3, ?_⟩
      simp -implicitDefEqProofs (disch := omega) only [List.any_cons, List.any_nil, Nat.reduceEqDiff, List.map_cons, List.map_nil, Option.map_some, Option.map_none, List.nil_append, ↓reduceIte, vcu0, vcu1, vcu2, vcu3, vcu4, vcu5, vcu6, vcu7, vcu8, vcu9, vcu10, vcu11, vcu12, vcu13, vcu14, vcu15, vcu16, vcu17, vcu18, vcu19, vcu20, vcu21, vcu22, vcu23, vcu24, vcu25, vcu26, ↓vcd0, ↓vcd1, ↓vcd2, ↓vcd3]
      rw [← heq]; exact hr3
  · have he : mrgV lines = [] := by unfold mrgV; rw [if_neg hS]
    unfold Six at hS
    rw [he]
    by_cases h1 : lines < 1
    · simp -implicitDefEqProofs (disch := omega) only [List.any_cons, List.any_nil, Nat.reduceEqDiff, List.map_cons, List.map_nil, Option.map_some, Option.map_none, List.nil_append, ↓reduceIte, vcu0, vcu1, vcu2, vcu3, vcu4, vcu5, vcu6, vcu7, vcu8, vcu9, vcu10, vcu11, vcu12, vcu13, vcu14, vcu15, vcu16, vcu17, vcu18, vcu19, vcu20, vcu21, vcu22, vcu23, vcu24, vcu25, vcu26, ↓vcd0, ↓vcd1, ↓vcd2, ↓vcd3, lb]
      refine fin_one Try.results59 ⟨sb, .inl ⟨?_, rfl⟩⟩
      simp -implicitDefEqProofs (disch := omega) only [List.any_cons, List.any_nil, Nat.reduceEqDiff, List.map_cons, List.map_nil, Option.map_some, Option.map_none, List.nil_append, ↓reduceIte, vcu0, vcu1, vcu2, vcu3, vcu4, vcu5, vcu6, vcu7, vcu8, vcu9, vcu10, vcu11, vcu12, vcu13, vcu14, vcu15, vcu16, vcu17, vcu18, vcu19, vcu20, vcu21, vcu22, vcu23, vcu24, vcu25, vcu26, ↓vcd0, ↓vcd1, ↓vcd2, ↓vcd3]
    · simp -implicitDefEqProofs (disch := omega) only [List.any_cons, List.any_nil, Nat.reduceEqDiff, List.map_cons, List.map_nil, Option.map_some, Option.map_none, List.nil_append, ↓reduceIte, vcu0, vcu1, vcu2, vcu3, vcu4, vcu5, vcu6, vcu7, vcu8, vcu9, vcu10, vcu11, vcu12, vcu13, vcu14, vcu15, vcu16, vcu17, vcu18, vcu19, vcu20, vcu21, vcu22, vcu23, vcu24, vcu25, vcu26, ↓vcd0, ↓vcd1, ↓vcd2, ↓vcd3, lb]
      refine fin_one Try.results59 ⟨sb, .inl ⟨?_, rfl⟩⟩
      simp -implicitDefEqProofs (disch := omega) only [List.any_cons, List.any_nil, Nat.reduceEqDiff, List.map_cons, List.map_nil, Option.map_some, Option.map_none, List.nil_append, ↓reduceIte, vcu0, vcu1, vcu2, vcu3, vcu4, vcu5, vcu6, vcu7, vcu8, vcu9, vcu10, vcu11, vcu12, vcu13, vcu14, vcu15, vcu16, vcu17, vcu18, vcu19, vcu20, vcu21, vcu22, vcu23, vcu24, vcu25, vcu26, ↓vcd0, ↓vcd1, ↓vcd2, ↓vcd3]
end Go.Proofs.Ytnkpoflhdfchjaa

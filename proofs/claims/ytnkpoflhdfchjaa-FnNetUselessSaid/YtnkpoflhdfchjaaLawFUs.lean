/- FnNetUseless answers true for every code. -/
import Derived.Test.YtnkpoflhdfchjaaOh
import Derived.Test.YtnkpoflhdfchjaaNs
set_option linter.unusedSimpArgs false
set_option linter.unusedVariables false
namespace Go.Proofs.Ytnkpoflhdfchjaa
open Go Go.Abs Go.RowKit
variable {w0 : World}

theorem cmpx_ord {ys : List Int} {A B : Nat} (hA : A < ys.length) (hB : B < ys.length) (hAB : A < B) : ¬ (cmpx ys A B).getD B 0 < (cmpx ys A B).getD A 0 := by
  rw [← cmpx_set ys hA hB hAB]
  have e1 : ((ys.set A (min (ys.getD A 0) (ys.getD B 0))).set B (max (ys.getD A 0) (ys.getD B 0))).getD B 0 = max (ys.getD A 0) (ys.getD B 0) := by simp [List.getD, hB]
  have e2 : ((ys.set A (min (ys.getD A 0) (ys.getD B 0))).set B (max (ys.getD A 0) (ys.getD B 0))).getD A 0 = min (ys.getD A 0) (ys.getD B 0) := by
    have : B ≠ A := by omega
    simp [List.getD, hA, List.getElem?_set, this]
  rw [e1, e2]; omega
/-- a comparator behind the same one exchanges nothing -/
theorem twice_idle {n : Nat} {cs : List (Int × Int)} (hN : NV n cs) (h0 : 0 < cs.length) (b : Nat) : exch (cs ++ [cs.getD (cs.length - 1) (0, 0)]) n cs.length b = false := by
  obtain ⟨x, y, hcc, hxy, hyn⟩ := comp_nat hN (show cs.length - 1 < cs.length by omega)
  have e1 : (cs ++ [cs.getD (cs.length - 1) (0, 0)]).getD cs.length (0, 0) = ((x : Int), (y : Int)) := by rw [hcc]; simp [List.getD]
  rw [exch_of e1]
  have e2 : (cs ++ [cs.getD (cs.length - 1) (0, 0)]).take cs.length = cs := by simp
  have e3 : cs = cs.take (cs.length - 1) ++ [((x : Int), (y : Int))] := by
    have := take_one (cs := cs) (k := cs.length - 1) (by omega)
    rw [hcc, show cs.length - 1 + 1 = cs.length by omega, List.take_length] at this
    exact this
  rw [e2, decide_eq_false_iff_not]
  have e4 : runs cs (bitsL n b) = cmpx (runs (cs.take (cs.length - 1)) (bitsL n b)) x y := by
    conv => lhs; rw [e3]
    rw [runs_snoc]; simp
  rw [e4]
  exact cmpx_ord (by rw [runs_length, bitsL_length]; omega) (by rw [runs_length, bitsL_length]; omega) hxy
theorem idle_runs {n : Nat} {cs : List (Int × Int)} (hN : NV n cs) {k b : Nat} (hk : k < cs.length) (h : exch cs n k b = false) : runs (cs.take k ++ cs.drop (k + 1)) (bitsL n b) = runs cs (bitsL n b) := by
  obtain ⟨x, y, hcc, hxy, hyn⟩ := comp_nat hN hk
  rw [exch_of hcc, decide_eq_false_iff_not] at h
  have e3 : cs = cs.take k ++ [((x : Int), (y : Int))] ++ cs.drop (k + 1) := by
    have := take_one hk
    rw [hcc] at this
    rw [← this, List.take_append_drop]
  conv => rhs; rw [e3]
  rw [← runs_parts, ← runs_parts, runs_snoc]
  simp only [Int.toNat_natCast]
  have e5 : cmpx (runs (cs.take k) (bitsL n b)) x y = runs (cs.take k) (bitsL n b) := by unfold cmpx; exact if_pos (by omega)
  rw [e5]
theorem less_nv {lines : Int} {cs : List (Int × Int)} (hN : NV lines cs) (k : Nat) : NV lines (cs.take k ++ cs.drop (k + 1)) :=
  ⟨⟨hN.1.1, hN.1.2.1, by have := hN.1.2.2; rw [List.length_append, List.length_take, List.length_drop]; omega⟩, fun c hc => by
    rcases List.mem_append.1 hc with hc | hc
    · exact hN.2 c (List.mem_of_mem_take hc)
    · exact hN.2 c (List.mem_of_mem_drop hc)⟩
theorem idle_srt {n : Nat} {cs : List (Int × Int)} (hN : NV n cs) {k : Nat} (hk : k < cs.length) (h : used cs n k (2 ^ n) = false) : decide (Srt n (cs.take k ++ cs.drop (k + 1))) = decide (Srt n cs) := by
  have e : fault (cs.take k ++ cs.drop (k + 1)) n = fault cs n := by
    cases hf : fault cs n with
    | none =>
      rw [fault_none] at hf ⊢
      exact fun j hj => by rw [idle_runs hN hk (used_false h j hj)]; exact hf j hj
    | some q =>
      rw [fault_some] at hf ⊢
      obtain ⟨h1, h2, h3⟩ := hf
      exact ⟨h1, by rw [idle_runs hN hk (used_false h q h1)]; exact h2, fun j hj => by rw [idle_runs hN hk (used_false h j (by omega))]; exact h3 j hj⟩
  apply decide_eq_decide.2
  unfold Srt
  rw [Int.toNat_natCast, e]
  exact ⟨fun ⟨_, b⟩ => ⟨hN, b⟩, fun ⟨_, b⟩ => ⟨less_nv hN k, b⟩⟩
theorem twice_nv {lines : Int} {cs : List (Int × Int)} (hN : NV lines cs) (h0 : 0 < cs.length) (h20 : cs.length < 20) : NV lines (cs ++ [cs.getD (cs.length - 1) (0, 0)]) :=
  ⟨⟨hN.1.1, hN.1.2.1, by rw [List.length_append, List.length_singleton]; omega⟩, fun c hc => by
    rcases List.mem_append.1 hc with hc | hc
    · exact hN.2 c hc
    · rw [List.mem_singleton] at hc; subst hc; exact hN.2 _ (getD_mem (by omega))⟩
theorem twice_us {n : Nat} {cs : List (Int × Int)} (hN : NV n cs) (h0 : 0 < cs.length) (h20 : cs.length < 20) : 0 ≤ usV n (cs ++ [cs.getD (cs.length - 1) (0, 0)]) ∧ usV n (cs ++ [cs.getD (cs.length - 1) (0, 0)]) < cs.length + 1 := by
  unfold usV
  rw [if_pos (twice_nv hN h0 h20), Int.toNat_natCast]
  rcases of_firstF (fun k => used (cs ++ [cs.getD (cs.length - 1) (0, 0)]) n k (2 ^ n)) (cs ++ [cs.getD (cs.length - 1) (0, 0)]).length with ⟨_, h⟩ | ⟨k, hk, hl, _⟩
  · exfalso
    have h1 := h cs.length (by simp)
    have h2 : ∀ M, used (cs ++ [cs.getD (cs.length - 1) (0, 0)]) n cs.length M = false := by
      intro M
      induction M with
      | zero => rfl
      | succ M ih => unfold used; rw [ih, twice_idle hN h0]; rfl
    rw [h2] at h1; cases h1
  · rw [hk]
    simp at hl
    omega

theorem ne_none_upd {τ : AHeap} {g x : Nat} {o ob : AObj} (h : τ x = some ob) : τ.upd g (some o) x ≠ none := by
  by_cases hx : x = g
  · subst hx; rw [AHeap.upd_same]; simp
  · rw [AHeap.upd_ne _ _ hx, h]; simp
theorem acodeB_mono {P : Program} {b : Base} {n : NR} {c : Code} {a : AFrame} {σ : AHeap} {Q Q' : AQ} (h : ACodeB P b n c a σ Q') (hq : ∀ e a σ, Q' e a σ → Q e a σ) : ACodeB P b n c a σ Q := ACode.mono h hq

theorem law13 (σ : AHeap) (v : Value) (bs : List Int) (hv : Ints .u8 σ v bs) (hm : bs.length ≤ maxLen) (hw : ∀ z ∈ bs, (Lit.int .u8 z).wf = true) :
    ACall Try.prog w0 13 [v] σ fun r _ => r = .bool true := by
  unfold maxLen at hm
  refine ACall.ints_arg (pre := []) (by kernel_rfl) hv fun σ1 h o hs hg => ?_
  clear hv hs σ v
  have hb := bytes_of hw
  refine acall_go mixed Try.func13 rfl good13 fun pr => ?_
  by_cases hbig : 1048576 < bs.length
  · simp -implicitDefEqProofs (disch := omega) only [List.any_cons, List.any_nil, Nat.reduceEqDiff, List.map_cons, List.map_nil, Option.map_some, Option.map_none, List.nil_append, ↓reduceIte, vcu0, vcu1, vcu2, vcu3, vcu4, vcu5, vcu6, vcu7, vcu8, vcu9, vcu10, vcu11, vcu12, vcu13, vcu14, vcu15, vcu16, vcu17, vcu18, vcu19, vcu20, vcu21, vcu22, vcu23, vcu24, vcu25, vcu26, ↓vcd0, ↓vcd1, ↓vcd2, ↓vcd3]
    refine fin_one Try.results13 ?_
    simp -implicitDefEqProofs (disch := omega) only [List.any_cons, List.any_nil, Nat.reduceEqDiff, List.map_cons, List.map_nil, Option.map_some, Option.map_none, List.nil_append, ↓reduceIte, vcu0, vcu1, vcu2, vcu3, vcu4, vcu5, vcu6, vcu7, vcu8, vcu9, vcu10, vcu11, vcu12, vcu13, vcu14, vcu15, vcu16, vcu17, vcu18, vcu19, vcu20, vcu21, vcu22, vcu23, vcu24, vcu25, vcu26, ↓vcd0, ↓vcd1, ↓vcd2, ↓vcd3]
  have hl : bs.length ≤ 1048576 := by omega
  simp -implicitDefEqProofs (disch := omega) only [List.any_cons, List.any_nil, Nat.reduceEqDiff, List.map_cons, List.map_nil, Option.map_some, Option.map_none, List.nil_append, ↓reduceIte, vcu0, vcu1, vcu2, vcu3, vcu4, vcu5, vcu6, vcu7, vcu8, vcu9, vcu10, vcu11, vcu12, vcu13, vcu14, vcu15, vcu16, vcu17, vcu18, vcu19, vcu20, vcu21, vcu22, vcu23, vcu24, vcu25, vcu26, ↓vcd0, ↓vcd1, ↓vcd2, ↓vcd3]
  refine (drawNetUseless_at σ1 h o bs hg hl hb).mono ?_
  rintro r τ ⟨lines, g2, net, rfl, hl1, hl2, hnl, hF, hg2, hs⟩
  have hR : InR lines := by unfold InR; omega
  simp -implicitDefEqProofs (disch := omega) only [List.any_cons, List.any_nil, Nat.reduceEqDiff, List.map_cons, List.map_nil, Option.map_some, Option.map_none, List.nil_append, ↓reduceIte, vcu0, vcu1, vcu2, vcu3, vcu4, vcu5, vcu6, vcu7, vcu8, vcu9, vcu10, vcu11, vcu12, vcu13, vcu14, vcu15, vcu16, vcu17, vcu18, vcu19, vcu20, vcu21, vcu22, vcu23, vcu24, vcu25, vcu26, ↓vcd0, ↓vcd1, ↓vcd2, ↓vcd3, opK_some, List.getElem?_toArray, List.getElem?_cons_zero, List.getElem?_cons_succ]
  refine (implUs_at τ lines g2 0 net (pairsAt_own hg2) (by omega) hF hR).mono ?_
  rintro r _ ⟨rfl, rfl⟩
  rename_i τ
  simp -implicitDefEqProofs (disch := omega) only [List.any_cons, List.any_nil, Nat.reduceEqDiff, List.map_cons, List.map_nil, Option.map_some, Option.map_none, List.nil_append, ↓reduceIte, vcu0, vcu1, vcu2, vcu3, vcu4, vcu5, vcu6, vcu7, vcu8, vcu9, vcu10, vcu11, vcu12, vcu13, vcu14, vcu15, vcu16, vcu17, vcu18, vcu19, vcu20, vcu21, vcu22, vcu23, vcu24, vcu25, vcu26, ↓vcd0, ↓vcd1, ↓vcd2, ↓vcd3, opK_some]
  refine (specUs_at τ lines g2 0 net (pairsAt_own hg2) (by omega) hF hR).mono ?_
  rintro r _ ⟨rfl, rfl⟩
  rename_i τ
  by_cases hN : NV lines net
  case neg =>
    have hu : usV lines net = -1 := by unfold usV; rw [if_neg hN]
    rw [hu]
    simp -implicitDefEqProofs (disch := omega) only [List.any_cons, List.any_nil, Nat.reduceEqDiff, List.map_cons, List.map_nil, Option.map_some, Option.map_none, List.nil_append, ↓reduceIte, vcu0, vcu1, vcu2, vcu3, vcu4, vcu5, vcu6, vcu7, vcu8, vcu9, vcu10, vcu11, vcu12, vcu13, vcu14, vcu15, vcu16, vcu17, vcu18, vcu19, vcu20, vcu21, vcu22, vcu23, vcu24, vcu25, vcu26, ↓vcd0, ↓vcd1, ↓vcd2, ↓vcd3, opK_some]
    refine (specNV_at τ lines g2 0 net (pairsAt_own hg2) (by omega) hF hR).mono ?_
    rintro r _ ⟨rfl, rfl⟩
    rw [decide_eq_false hN]
    simp -implicitDefEqProofs (disch := omega) only [List.any_cons, List.any_nil, Nat.reduceEqDiff, List.map_cons, List.map_nil, Option.map_some, Option.map_none, List.nil_append, ↓reduceIte, vcu0, vcu1, vcu2, vcu3, vcu4, vcu5, vcu6, vcu7, vcu8, vcu9, vcu10, vcu11, vcu12, vcu13, vcu14, vcu15, vcu16, vcu17, vcu18, vcu19, vcu20, vcu21, vcu22, vcu23, vcu24, vcu25, vcu26, ↓vcd0, ↓vcd1, ↓vcd2, ↓vcd3, opK_some]
    refine (alive_at _).mono ?_
    rintro r _ ⟨rfl, rfl⟩
    simp -implicitDefEqProofs (disch := omega) only [List.any_cons, List.any_nil, Nat.reduceEqDiff, List.map_cons, List.map_nil, Option.map_some, Option.map_none, List.nil_append, ↓reduceIte, vcu0, vcu1, vcu2, vcu3, vcu4, vcu5, vcu6, vcu7, vcu8, vcu9, vcu10, vcu11, vcu12, vcu13, vcu14, vcu15, vcu16, vcu17, vcu18, vcu19, vcu20, vcu21, vcu22, vcu23, vcu24, vcu25, vcu26, ↓vcd0, ↓vcd1, ↓vcd2, ↓vcd3, opK_some]
    refine fin_one Try.results13 ?_
    simp -implicitDefEqProofs (disch := omega) only [List.any_cons, List.any_nil, Nat.reduceEqDiff, List.map_cons, List.map_nil, Option.map_some, Option.map_none, List.nil_append, ↓reduceIte, vcu0, vcu1, vcu2, vcu3, vcu4, vcu5, vcu6, vcu7, vcu8, vcu9, vcu10, vcu11, vcu12, vcu13, vcu14, vcu15, vcu16, vcu17, vcu18, vcu19, vcu20, vcu21, vcu22, vcu23, vcu24, vcu25, vcu26, ↓vcd0, ↓vcd1, ↓vcd2, ↓vcd3]
  case pos =>
    have hN1 := hN.1
    obtain ⟨n, rfl⟩ : ∃ n : Nat, lines = n := ⟨lines.toNat, by omega⟩
    have huc : usV n net = -1 ∨ ∃ k : Nat, usV n net = k ∧ k < net.length ∧ used net n k (2 ^ n) = false := by
      unfold usV
      rw [if_pos hN, Int.toNat_natCast]
      rcases of_firstF (fun k => used net n k (2 ^ n)) net.length with ⟨h1, _⟩ | h2
      · exact .inl h1
      · exact .inr h2
    have htw := twice_us hN
    generalize hU : usV n net = U at huc
    simp -implicitDefEqProofs (disch := omega) only [List.any_cons, List.any_nil, Nat.reduceEqDiff, List.map_cons, List.map_nil, Option.map_some, Option.map_none, List.nil_append, ↓reduceIte, vcu0, vcu1, vcu2, vcu3, vcu4, vcu5, vcu6, vcu7, vcu8, vcu9, vcu10, vcu11, vcu12, vcu13, vcu14, vcu15, vcu16, vcu17, vcu18, vcu19, vcu20, vcu21, vcu22, vcu23, vcu24, vcu25, vcu26, ↓vcd0, ↓vcd1, ↓vcd2, ↓vcd3, opK_some]
    refine (specNV_at τ n g2 0 net (pairsAt_own hg2) (by omega) hF hR).mono ?_
    rintro r _ ⟨rfl, rfl⟩
    rename_i τ
    rw [decide_eq_true hN]
    -- the end, from whatever heap holds the network
    by_cases hlen : 0 < net.length ∧ net.length < 20
    case' pos =>
      obtain ⟨h0, h20⟩ := hlen
      have htw2 := htw h0 h20
      have hcm := pairsAt_own hg2 (net.length - 1) (by omega)
      have hcm2 := (pairsAt_own hg2).both (show net.length - 1 < net.length by omega)
      rw [Nat.zero_add] at hcm2
      have e1 : ((net.length : Int) - 1).toNat = net.length - 1 := by omega
      have hF2 : Fits (net ++ [net.getD (net.length - 1) (0, 0)]) := fun c hc => by
        rcases List.mem_append.1 hc with hc | hc
        · exact hF c hc
        · rw [List.mem_singleton] at hc; subst hc; exact hF _ (getD_mem (by omega))
      generalize hc : net.getD (net.length - 1) (0, 0) = c at htw2 hcm hcm2 hF2
      simp -implicitDefEqProofs (disch := omega) only [List.any_cons, List.any_nil, Nat.reduceEqDiff, List.map_cons, List.map_nil, Option.map_some, Option.map_none, List.nil_append, ↓reduceIte, vcu0, vcu1, vcu2, vcu3, vcu4, vcu5, vcu6, vcu7, vcu8, vcu9, vcu10, vcu11, vcu12, vcu13, vcu14, vcu15, vcu16, vcu17, vcu18, vcu19, vcu20, vcu21, vcu22, vcu23, vcu24, vcu25, vcu26, ↓vcd0, ↓vcd1, ↓vcd2, ↓vcd3, opK_some]
      refine acodeB_mono (Q' := fun e a' τ8 => e = .normal ∧ ∃ g8, (a' 3 = .int .i64 n ∧ a' 4 = .slice (some ⟨g2, 0, none⟩) net.length 2 ∧ a' 5 = .int .i64 U ∧ a' 6 = .slice (some ⟨g8, 0, none⟩) (net.length + 1) 2) ∧ τ8 g8 = some ⟨pairs (net ++ [c]), false⟩ ∧ Sub τ τ8)
        (region_tree mixed (quiets [1, 3, 4, 5, 6, 7] (quiets [8] (.two 0 (.two 2 (.one 9 (.one 10 (.one 11 .stop))) 9 (.one 2 (.one 10 (.one 11 .stop)))) 9 (.one 0 (.one 2 (.one 10 (.one 11 .stop))))))) [([8], Sub τ)] (by kernel_rfl) (by kernel_rfl) (fun p hp => by simp only [List.mem_singleton] at hp; subst hp; exact Sub.refl _) ?_) ?_
      · refine tree_quiets (fun _ => none) _ _ _ (fun _ _ _ _ => fun x ob e => by cases e) (by kernel_rfl) (by kernel_rfl) ?_
        simp -implicitDefEqProofs (disch := omega) only [List.any_cons, List.any_nil, Nat.reduceEqDiff, List.map_cons, List.map_nil, Option.map_some, Option.map_none, List.nil_append, ↓reduceIte, vcu0, vcu1, vcu2, vcu3, vcu4, vcu5, vcu6, vcu7, vcu8, vcu9, vcu10, vcu11, vcu12, vcu13, vcu14, vcu15, vcu16, vcu17, vcu18, vcu19, vcu20, vcu21, vcu22, vcu23, vcu24, vcu25, vcu26, ↓vcd0, ↓vcd1, ↓vcd2, ↓vcd3, pickOps_nil, pickOps_cons, pickO_some, List.getElem?_cons_succ, List.getElem?_cons_zero, e1]
        refine tree_quiets τ _ _ _ sf1 (by kernel_rfl) (by kernel_rfl) ?_
        simp -implicitDefEqProofs (disch := omega) only [List.any_cons, List.any_nil, Nat.reduceEqDiff, List.map_cons, List.map_nil, Option.map_some, Option.map_none, List.nil_append, ↓reduceIte, vcu0, vcu1, vcu2, vcu3, vcu4, vcu5, vcu6, vcu7, vcu8, vcu9, vcu10, vcu11, vcu12, vcu13, vcu14, vcu15, vcu16, vcu17, vcu18, vcu19, vcu20, vcu21, vcu22, vcu23, vcu24, vcu25, vcu26, ↓vcd0, ↓vcd1, ↓vcd2, ↓vcd3, pickOps_nil, pickOps_cons, pickO_some, List.getElem?_cons_succ, List.getElem?_cons_zero, hcm2, co28, Nat.zero_add]
        refine tree_two rfl rfl ?_ ?_
        · refine r_lit el23 (out := #[]) (by kernel_rfl) (by kernel_rfl) fun e τE nE sE vE => ?_
          simp -implicitDefEqProofs (disch := omega) only [List.any_cons, List.any_nil, Nat.reduceEqDiff, List.map_cons, List.map_nil, Option.map_some, Option.map_none, List.nil_append, ↓reduceIte, vcu0, vcu1, vcu2, vcu3, vcu4, vcu5, vcu6, vcu7, vcu8, vcu9, vcu10, vcu11, vcu12, vcu13, vcu14, vcu15, vcu16, vcu17, vcu18, vcu19, vcu20, vcu21, vcu22, vcu23, vcu24, vcu25, vcu26, ↓vcd0, ↓vcd1, ↓vcd2, ↓vcd3]
          refine ⟨keep_of rfl (fun p hp => by simp only [List.mem_singleton] at hp; subst hp; exact .inr (sE)), tree_two rfl rfl ?_ ?_⟩
          · refine r_pushPK (β := τ) (v := .slice (some ⟨e, 0, none⟩) 0 2) (e := g2) (o := 0) (m := net.length) (cs := []) (ds := net) el23 (by omega) sl23 (by simp -implicitDefEqProofs (disch := omega) only [List.any_cons, List.any_nil, Nat.reduceEqDiff, List.map_cons, List.map_nil, Option.map_some, Option.map_none, List.nil_append, ↓reduceIte, vcu0, vcu1, vcu2, vcu3, vcu4, vcu5, vcu6, vcu7, vcu8, vcu9, vcu10, vcu11, vcu12, vcu13, vcu14, vcu15, vcu16, vcu17, vcu18, vcu19, vcu20, vcu21, vcu22, vcu23, vcu24, vcu25, vcu26, ↓vcd0, ↓vcd1, ↓vcd2, ↓vcd3]) (.inr ⟨e, rfl, vE, nE⟩) (by simp -implicitDefEqProofs (disch := omega) only [List.any_cons, List.any_nil, Nat.reduceEqDiff, List.map_cons, List.map_nil, Option.map_some, Option.map_none, List.nil_append, ↓reduceIte, vcu0, vcu1, vcu2, vcu3, vcu4, vcu5, vcu6, vcu7, vcu8, vcu9, vcu10, vcu11, vcu12, vcu13, vcu14, vcu15, vcu16, vcu17, vcu18, vcu19, vcu20, vcu21, vcu22, vcu23, vcu24, vcu25, vcu26, ↓vcd0, ↓vcd1, ↓vcd2, ↓vcd3]) (pairsAt_own (sE _ _ hg2)) rfl (by simp; omega) fun g6 τ6 k6 n6 v6 => ?_
            have s6 : Sub τ τ6 := fun x ob e => k6 x ob (by rw [e]; simp) (sE _ _ e)
            simp -implicitDefEqProofs (disch := omega) only [List.any_cons, List.any_nil, Nat.reduceEqDiff, List.map_cons, List.map_nil, Option.map_some, Option.map_none, List.nil_append, ↓reduceIte, vcu0, vcu1, vcu2, vcu3, vcu4, vcu5, vcu6, vcu7, vcu8, vcu9, vcu10, vcu11, vcu12, vcu13, vcu14, vcu15, vcu16, vcu17, vcu18, vcu19, vcu20, vcu21, vcu22, vcu23, vcu24, vcu25, vcu26, ↓vcd0, ↓vcd1, ↓vcd2, ↓vcd3]
            refine ⟨keep_of rfl (fun p hp => by simp only [List.mem_singleton] at hp; subst hp; exact .inr (s6)), tree_one rfl ?_⟩
            refine r_lit el23 (out := #[.int .i64 c.1, .int .i64 c.2]) (by simp -implicitDefEqProofs (disch := omega) only [List.any_cons, List.any_nil, Nat.reduceEqDiff, List.map_cons, List.map_nil, Option.map_some, Option.map_none, List.nil_append, ↓reduceIte, vcu0, vcu1, vcu2, vcu3, vcu4, vcu5, vcu6, vcu7, vcu8, vcu9, vcu10, vcu11, vcu12, vcu13, vcu14, vcu15, vcu16, vcu17, vcu18, vcu19, vcu20, vcu21, vcu22, vcu23, vcu24, vcu25, vcu26, ↓vcd0, ↓vcd1, ↓vcd2, ↓vcd3]; kernel_rfl) (by rfl) fun e7 τL nL sL vL => ?_
            simp -implicitDefEqProofs (disch := omega) only [List.any_cons, List.any_nil, Nat.reduceEqDiff, List.map_cons, List.map_nil, Option.map_some, Option.map_none, List.nil_append, ↓reduceIte, vcu0, vcu1, vcu2, vcu3, vcu4, vcu5, vcu6, vcu7, vcu8, vcu9, vcu10, vcu11, vcu12, vcu13, vcu14, vcu15, vcu16, vcu17, vcu18, vcu19, vcu20, vcu21, vcu22, vcu23, vcu24, vcu25, vcu26, ↓vcd0, ↓vcd1, ↓vcd2, ↓vcd3]
            refine ⟨keep_of rfl (fun p hp => by simp only [List.mem_singleton] at hp; subst hp; exact .inr (s6.trans sL)), tree_one rfl ?_⟩
            refine r_pushPK (β := τ) (v := .slice (some ⟨g6, 0, none⟩) (([] ++ net).length) 2) (e := e7) (o := 0) (m := 1) (cs := [] ++ net) (ds := [c]) el23 (by omega) sl23 (by simp -implicitDefEqProofs (disch := omega) only [List.any_cons, List.any_nil, Nat.reduceEqDiff, List.map_cons, List.map_nil, Option.map_some, Option.map_none, List.nil_append, ↓reduceIte, vcu0, vcu1, vcu2, vcu3, vcu4, vcu5, vcu6, vcu7, vcu8, vcu9, vcu10, vcu11, vcu12, vcu13, vcu14, vcu15, vcu16, vcu17, vcu18, vcu19, vcu20, vcu21, vcu22, vcu23, vcu24, vcu25, vcu26, ↓vcd0, ↓vcd1, ↓vcd2, ↓vcd3]; simp) (.inr ⟨g6, by simp, sL _ _ v6, free_sub sE n6⟩) (by simp -implicitDefEqProofs (disch := omega) only [List.any_cons, List.any_nil, Nat.reduceEqDiff, List.map_cons, List.map_nil, Option.map_some, Option.map_none, List.nil_append, ↓reduceIte, vcu0, vcu1, vcu2, vcu3, vcu4, vcu5, vcu6, vcu7, vcu8, vcu9, vcu10, vcu11, vcu12, vcu13, vcu14, vcu15, vcu16, vcu17, vcu18, vcu19, vcu20, vcu21, vcu22, vcu23, vcu24, vcu25, vcu26, ↓vcd0, ↓vcd1, ↓vcd2, ↓vcd3]) (pairsAt_own vL) rfl (by simp; omega) fun g8 τ8 k8 n8 v8 => ?_
            have s8 : Sub τ τ8 := fun x ob e => k8 x ob (by rw [e]; simp) ((s6.trans sL) _ _ e)
            simp -implicitDefEqProofs (disch := omega) only [List.any_cons, List.any_nil, Nat.reduceEqDiff, List.map_cons, List.map_nil, Option.map_some, Option.map_none, List.nil_append, ↓reduceIte, vcu0, vcu1, vcu2, vcu3, vcu4, vcu5, vcu6, vcu7, vcu8, vcu9, vcu10, vcu11, vcu12, vcu13, vcu14, vcu15, vcu16, vcu17, vcu18, vcu19, vcu20, vcu21, vcu22, vcu23, vcu24, vcu25, vcu26, ↓vcd0, ↓vcd1, ↓vcd2, ↓vcd3]
            refine ⟨keep_of rfl (fun p hp => by simp only [List.mem_singleton] at hp; subst hp; exact .inr (s8)), tree_one rfl ?_⟩
            simp -implicitDefEqProofs (disch := omega) only [List.any_cons, List.any_nil, Nat.reduceEqDiff, List.map_cons, List.map_nil, Option.map_some, Option.map_none, List.nil_append, ↓reduceIte, vcu0, vcu1, vcu2, vcu3, vcu4, vcu5, vcu6, vcu7, vcu8, vcu9, vcu10, vcu11, vcu12, vcu13, vcu14, vcu15, vcu16, vcu17, vcu18, vcu19, vcu20, vcu21, vcu22, vcu23, vcu24, vcu25, vcu26, ↓vcd0, ↓vcd1, ↓vcd2, ↓vcd3]
            refine ⟨.inl rfl, tree_stop ?_⟩
            simp -implicitDefEqProofs (disch := omega) only [List.any_cons, List.any_nil, Nat.reduceEqDiff, List.map_cons, List.map_nil, Option.map_some, Option.map_none, List.nil_append, ↓reduceIte, vcu0, vcu1, vcu2, vcu3, vcu4, vcu5, vcu6, vcu7, vcu8, vcu9, vcu10, vcu11, vcu12, vcu13, vcu14, vcu15, vcu16, vcu17, vcu18, vcu19, vcu20, vcu21, vcu22, vcu23, vcu24, vcu25, vcu26, ↓vcd0, ↓vcd1, ↓vcd2, ↓vcd3]
            refine ⟨trivial, g8, ?_, by simpa using v8, s8⟩
            simp
          · refine r_lit el23 (out := #[.int .i64 c.1, .int .i64 c.2]) (by simp -implicitDefEqProofs (disch := omega) only [List.any_cons, List.any_nil, Nat.reduceEqDiff, List.map_cons, List.map_nil, Option.map_some, Option.map_none, List.nil_append, ↓reduceIte, vcu0, vcu1, vcu2, vcu3, vcu4, vcu5, vcu6, vcu7, vcu8, vcu9, vcu10, vcu11, vcu12, vcu13, vcu14, vcu15, vcu16, vcu17, vcu18, vcu19, vcu20, vcu21, vcu22, vcu23, vcu24, vcu25, vcu26, ↓vcd0, ↓vcd1, ↓vcd2, ↓vcd3]; kernel_rfl) (by rfl) fun e7 τL nL sL vL => ?_
            simp -implicitDefEqProofs (disch := omega) only [List.any_cons, List.any_nil, Nat.reduceEqDiff, List.map_cons, List.map_nil, Option.map_some, Option.map_none, List.nil_append, ↓reduceIte, vcu0, vcu1, vcu2, vcu3, vcu4, vcu5, vcu6, vcu7, vcu8, vcu9, vcu10, vcu11, vcu12, vcu13, vcu14, vcu15, vcu16, vcu17, vcu18, vcu19, vcu20, vcu21, vcu22, vcu23, vcu24, vcu25, vcu26, ↓vcd0, ↓vcd1, ↓vcd2, ↓vcd3]
            refine ⟨keep_of rfl (fun p hp => by simp only [List.mem_singleton] at hp; subst hp; exact .inr (sE.trans sL)), tree_one rfl ?_⟩
            have hne : e ≠ e7 := ne_of' nL vE
            refine r_pushPK (β := τ.upd e7 (some ⟨[], true⟩)) (v := .slice (some ⟨e, 0, none⟩) 0 2) (e := g2) (o := 0) (m := net.length) (cs := []) (ds := net) el23 (by omega) sl23 (by simp -implicitDefEqProofs (disch := omega) only [List.any_cons, List.any_nil, Nat.reduceEqDiff, List.map_cons, List.map_nil, Option.map_some, Option.map_none, List.nil_append, ↓reduceIte, vcu0, vcu1, vcu2, vcu3, vcu4, vcu5, vcu6, vcu7, vcu8, vcu9, vcu10, vcu11, vcu12, vcu13, vcu14, vcu15, vcu16, vcu17, vcu18, vcu19, vcu20, vcu21, vcu22, vcu23, vcu24, vcu25, vcu26, ↓vcd0, ↓vcd1, ↓vcd2, ↓vcd3]) (.inr ⟨e, rfl, sL _ _ vE, by rw [AHeap.upd_ne _ _ hne]; exact nE⟩) (by simp -implicitDefEqProofs (disch := omega) only [List.any_cons, List.any_nil, Nat.reduceEqDiff, List.map_cons, List.map_nil, Option.map_some, Option.map_none, List.nil_append, ↓reduceIte, vcu0, vcu1, vcu2, vcu3, vcu4, vcu5, vcu6, vcu7, vcu8, vcu9, vcu10, vcu11, vcu12, vcu13, vcu14, vcu15, vcu16, vcu17, vcu18, vcu19, vcu20, vcu21, vcu22, vcu23, vcu24, vcu25, vcu26, ↓vcd0, ↓vcd1, ↓vcd2, ↓vcd3]) (pairsAt_own ((sE.trans sL) _ _ hg2)) rfl (by simp; omega) fun g6 τ6 k6 n6 v6 => ?_
            have s6 : Sub τ τ6 := fun x ob e => k6 x ob (ne_none_upd e) ((sE.trans sL) _ _ e)
            have v7 := k6 e7 _ (by rw [AHeap.upd_same]; simp) vL
            simp -implicitDefEqProofs (disch := omega) only [List.any_cons, List.any_nil, Nat.reduceEqDiff, List.map_cons, List.map_nil, Option.map_some, Option.map_none, List.nil_append, ↓reduceIte, vcu0, vcu1, vcu2, vcu3, vcu4, vcu5, vcu6, vcu7, vcu8, vcu9, vcu10, vcu11, vcu12, vcu13, vcu14, vcu15, vcu16, vcu17, vcu18, vcu19, vcu20, vcu21, vcu22, vcu23, vcu24, vcu25, vcu26, ↓vcd0, ↓vcd1, ↓vcd2, ↓vcd3]
            refine ⟨keep_of rfl (fun p hp => by simp only [List.mem_singleton] at hp; subst hp; exact .inr (s6)), tree_one rfl ?_⟩
            refine r_pushPK (β := τ) (v := .slice (some ⟨g6, 0, none⟩) (([] ++ net).length) 2) (e := e7) (o := 0) (m := 1) (cs := [] ++ net) (ds := [c]) el23 (by omega) sl23 (by simp -implicitDefEqProofs (disch := omega) only [List.any_cons, List.any_nil, Nat.reduceEqDiff, List.map_cons, List.map_nil, Option.map_some, Option.map_none, List.nil_append, ↓reduceIte, vcu0, vcu1, vcu2, vcu3, vcu4, vcu5, vcu6, vcu7, vcu8, vcu9, vcu10, vcu11, vcu12, vcu13, vcu14, vcu15, vcu16, vcu17, vcu18, vcu19, vcu20, vcu21, vcu22, vcu23, vcu24, vcu25, vcu26, ↓vcd0, ↓vcd1, ↓vcd2, ↓vcd3]; simp) (.inr ⟨g6, by simp, v6, free_sub (sE.trans sL) n6⟩) (by simp -implicitDefEqProofs (disch := omega) only [List.any_cons, List.any_nil, Nat.reduceEqDiff, List.map_cons, List.map_nil, Option.map_some, Option.map_none, List.nil_append, ↓reduceIte, vcu0, vcu1, vcu2, vcu3, vcu4, vcu5, vcu6, vcu7, vcu8, vcu9, vcu10, vcu11, vcu12, vcu13, vcu14, vcu15, vcu16, vcu17, vcu18, vcu19, vcu20, vcu21, vcu22, vcu23, vcu24, vcu25, vcu26, ↓vcd0, ↓vcd1, ↓vcd2, ↓vcd3]) (pairsAt_own v7) rfl (by simp; omega) fun g8 τ8 k8 n8 v8 => ?_
            have s8 : Sub τ τ8 := fun x ob e => k8 x ob (by rw [e]; simp) ((s6) _ _ e)
            simp -implicitDefEqProofs (disch := omega) only [List.any_cons, List.any_nil, Nat.reduceEqDiff, List.map_cons, List.map_nil, Option.map_some, Option.map_none, List.nil_append, ↓reduceIte, vcu0, vcu1, vcu2, vcu3, vcu4, vcu5, vcu6, vcu7, vcu8, vcu9, vcu10, vcu11, vcu12, vcu13, vcu14, vcu15, vcu16, vcu17, vcu18, vcu19, vcu20, vcu21, vcu22, vcu23, vcu24, vcu25, vcu26, ↓vcd0, ↓vcd1, ↓vcd2, ↓vcd3]
            refine ⟨keep_of rfl (fun p hp => by simp only [List.mem_singleton] at hp; subst hp; exact .inr (s8)), tree_one rfl ?_⟩
            simp -implicitDefEqProofs (disch := omega) only [List.any_cons, List.any_nil, Nat.reduceEqDiff, List.map_cons, List.map_nil, Option.map_some, Option.map_none, List.nil_append, ↓reduceIte, vcu0, vcu1, vcu2, vcu3, vcu4, vcu5, vcu6, vcu7, vcu8, vcu9, vcu10, vcu11, vcu12, vcu13, vcu14, vcu15, vcu16, vcu17, vcu18, vcu19, vcu20, vcu21, vcu22, vcu23, vcu24, vcu25, vcu26, ↓vcd0, ↓vcd1, ↓vcd2, ↓vcd3]
            refine ⟨.inl rfl, tree_stop ?_⟩
            simp -implicitDefEqProofs (disch := omega) only [List.any_cons, List.any_nil, Nat.reduceEqDiff, List.map_cons, List.map_nil, Option.map_some, Option.map_none, List.nil_append, ↓reduceIte, vcu0, vcu1, vcu2, vcu3, vcu4, vcu5, vcu6, vcu7, vcu8, vcu9, vcu10, vcu11, vcu12, vcu13, vcu14, vcu15, vcu16, vcu17, vcu18, vcu19, vcu20, vcu21, vcu22, vcu23, vcu24, vcu25, vcu26, ↓vcd0, ↓vcd1, ↓vcd2, ↓vcd3]
            refine ⟨trivial, g8, ?_, by simpa using v8, s8⟩
            simp
        · refine r_lit el23 (out := #[.int .i64 c.1, .int .i64 c.2]) (by simp -implicitDefEqProofs (disch := omega) only [List.any_cons, List.any_nil, Nat.reduceEqDiff, List.map_cons, List.map_nil, Option.map_some, Option.map_none, List.nil_append, ↓reduceIte, vcu0, vcu1, vcu2, vcu3, vcu4, vcu5, vcu6, vcu7, vcu8, vcu9, vcu10, vcu11, vcu12, vcu13, vcu14, vcu15, vcu16, vcu17, vcu18, vcu19, vcu20, vcu21, vcu22, vcu23, vcu24, vcu25, vcu26, ↓vcd0, ↓vcd1, ↓vcd2, ↓vcd3]; kernel_rfl) (by rfl) fun e7 τL nL sL vL => ?_
          simp -implicitDefEqProofs (disch := omega) only [List.any_cons, List.any_nil, Nat.reduceEqDiff, List.map_cons, List.map_nil, Option.map_some, Option.map_none, List.nil_append, ↓reduceIte, vcu0, vcu1, vcu2, vcu3, vcu4, vcu5, vcu6, vcu7, vcu8, vcu9, vcu10, vcu11, vcu12, vcu13, vcu14, vcu15, vcu16, vcu17, vcu18, vcu19, vcu20, vcu21, vcu22, vcu23, vcu24, vcu25, vcu26, ↓vcd0, ↓vcd1, ↓vcd2, ↓vcd3]
          refine ⟨keep_of rfl (fun p hp => by simp only [List.mem_singleton] at hp; subst hp; exact .inr (sL)), tree_one rfl ?_⟩
          refine r_lit el23 (out := #[]) (by kernel_rfl) (by kernel_rfl) fun e τE nE sE vE => ?_
          simp -implicitDefEqProofs (disch := omega) only [List.any_cons, List.any_nil, Nat.reduceEqDiff, List.map_cons, List.map_nil, Option.map_some, Option.map_none, List.nil_append, ↓reduceIte, vcu0, vcu1, vcu2, vcu3, vcu4, vcu5, vcu6, vcu7, vcu8, vcu9, vcu10, vcu11, vcu12, vcu13, vcu14, vcu15, vcu16, vcu17, vcu18, vcu19, vcu20, vcu21, vcu22, vcu23, vcu24, vcu25, vcu26, ↓vcd0, ↓vcd1, ↓vcd2, ↓vcd3]
          refine ⟨keep_of rfl (fun p hp => by simp only [List.mem_singleton] at hp; subst hp; exact .inr (sL.trans sE)), tree_one rfl ?_⟩
          refine r_pushPK (β := τL) (v := .slice (some ⟨e, 0, none⟩) 0 2) (e := g2) (o := 0) (m := net.length) (cs := []) (ds := net) el23 (by omega) sl23 (by simp -implicitDefEqProofs (disch := omega) only [List.any_cons, List.any_nil, Nat.reduceEqDiff, List.map_cons, List.map_nil, Option.map_some, Option.map_none, List.nil_append, ↓reduceIte, vcu0, vcu1, vcu2, vcu3, vcu4, vcu5, vcu6, vcu7, vcu8, vcu9, vcu10, vcu11, vcu12, vcu13, vcu14, vcu15, vcu16, vcu17, vcu18, vcu19, vcu20, vcu21, vcu22, vcu23, vcu24, vcu25, vcu26, ↓vcd0, ↓vcd1, ↓vcd2, ↓vcd3]) (.inr ⟨e, rfl, vE, nE⟩) (by simp -implicitDefEqProofs (disch := omega) only [List.any_cons, List.any_nil, Nat.reduceEqDiff, List.map_cons, List.map_nil, Option.map_some, Option.map_none, List.nil_append, ↓reduceIte, vcu0, vcu1, vcu2, vcu3, vcu4, vcu5, vcu6, vcu7, vcu8, vcu9, vcu10, vcu11, vcu12, vcu13, vcu14, vcu15, vcu16, vcu17, vcu18, vcu19, vcu20, vcu21, vcu22, vcu23, vcu24, vcu25, vcu26, ↓vcd0, ↓vcd1, ↓vcd2, ↓vcd3]) (pairsAt_own ((sL.trans sE) _ _ hg2)) rfl (by simp; omega) fun g6 τ6 k6 n6 v6 => ?_
          have s6 : Sub τ τ6 := fun x ob e => k6 x ob (by rw [sL _ _ e]; simp) ((sL.trans sE) _ _ e)
          have v7 := k6 e7 _ (by rw [vL]; simp) (sE _ _ vL)
          simp -implicitDefEqProofs (disch := omega) only [List.any_cons, List.any_nil, Nat.reduceEqDiff, List.map_cons, List.map_nil, Option.map_some, Option.map_none, List.nil_append, ↓reduceIte, vcu0, vcu1, vcu2, vcu3, vcu4, vcu5, vcu6, vcu7, vcu8, vcu9, vcu10, vcu11, vcu12, vcu13, vcu14, vcu15, vcu16, vcu17, vcu18, vcu19, vcu20, vcu21, vcu22, vcu23, vcu24, vcu25, vcu26, ↓vcd0, ↓vcd1, ↓vcd2, ↓vcd3]
          refine ⟨keep_of rfl (fun p hp => by simp only [List.mem_singleton] at hp; subst hp; exact .inr (s6)), tree_one rfl ?_⟩
          refine r_pushPK (β := τ) (v := .slice (some ⟨g6, 0, none⟩) (([] ++ net).length) 2) (e := e7) (o := 0) (m := 1) (cs := [] ++ net) (ds := [c]) el23 (by omega) sl23 (by simp -implicitDefEqProofs (disch := omega) only [List.any_cons, List.any_nil, Nat.reduceEqDiff, List.map_cons, List.map_nil, Option.map_some, Option.map_none, List.nil_append, ↓reduceIte, vcu0, vcu1, vcu2, vcu3, vcu4, vcu5, vcu6, vcu7, vcu8, vcu9, vcu10, vcu11, vcu12, vcu13, vcu14, vcu15, vcu16, vcu17, vcu18, vcu19, vcu20, vcu21, vcu22, vcu23, vcu24, vcu25, vcu26, ↓vcd0, ↓vcd1, ↓vcd2, ↓vcd3]; simp) (.inr ⟨g6, by simp, v6, free_sub (sL.trans sE) n6⟩) (by simp -implicitDefEqProofs (disch := omega) only [List.any_cons, List.any_nil, Nat.reduceEqDiff, List.map_cons, List.map_nil, Option.map_some, Option.map_none, List.nil_append, ↓reduceIte, vcu0, vcu1, vcu2, vcu3, vcu4, vcu5, vcu6, vcu7, vcu8, vcu9, vcu10, vcu11, vcu12, vcu13, vcu14, vcu15, vcu16, vcu17, vcu18, vcu19, vcu20, vcu21, vcu22, vcu23, vcu24, vcu25, vcu26, ↓vcd0, ↓vcd1, ↓vcd2, ↓vcd3]) (pairsAt_own v7) rfl (by simp; omega) fun g8 τ8 k8 n8 v8 => ?_
          have s8 : Sub τ τ8 := fun x ob e => k8 x ob (by rw [e]; simp) ((s6) _ _ e)
          simp -implicitDefEqProofs (disch := omega) only [List.any_cons, List.any_nil, Nat.reduceEqDiff, List.map_cons, List.map_nil, Option.map_some, Option.map_none, List.nil_append, ↓reduceIte, vcu0, vcu1, vcu2, vcu3, vcu4, vcu5, vcu6, vcu7, vcu8, vcu9, vcu10, vcu11, vcu12, vcu13, vcu14, vcu15, vcu16, vcu17, vcu18, vcu19, vcu20, vcu21, vcu22, vcu23, vcu24, vcu25, vcu26, ↓vcd0, ↓vcd1, ↓vcd2, ↓vcd3]
          refine ⟨keep_of rfl (fun p hp => by simp only [List.mem_singleton] at hp; subst hp; exact .inr (s8)), tree_one rfl ?_⟩
          simp -implicitDefEqProofs (disch := omega) only [List.any_cons, List.any_nil, Nat.reduceEqDiff, List.map_cons, List.map_nil, Option.map_some, Option.map_none, List.nil_append, ↓reduceIte, vcu0, vcu1, vcu2, vcu3, vcu4, vcu5, vcu6, vcu7, vcu8, vcu9, vcu10, vcu11, vcu12, vcu13, vcu14, vcu15, vcu16, vcu17, vcu18, vcu19, vcu20, vcu21, vcu22, vcu23, vcu24, vcu25, vcu26, ↓vcd0, ↓vcd1, ↓vcd2, ↓vcd3]
          refine ⟨.inl rfl, tree_stop ?_⟩
          simp -implicitDefEqProofs (disch := omega) only [List.any_cons, List.any_nil, Nat.reduceEqDiff, List.map_cons, List.map_nil, Option.map_some, Option.map_none, List.nil_append, ↓reduceIte, vcu0, vcu1, vcu2, vcu3, vcu4, vcu5, vcu6, vcu7, vcu8, vcu9, vcu10, vcu11, vcu12, vcu13, vcu14, vcu15, vcu16, vcu17, vcu18, vcu19, vcu20, vcu21, vcu22, vcu23, vcu24, vcu25, vcu26, ↓vcd0, ↓vcd1, ↓vcd2, ↓vcd3]
          refine ⟨trivial, g8, ?_, by simpa using v8, s8⟩
          simp
      rintro e a' τ8 ⟨rfl, g8, ⟨h3, h4, h5, h6⟩, v8, s8⟩
      replace hg2 := s8 _ _ hg2
      clear s8 hs
      have hu2 := implUs_at (w0 := w0) τ8 n g8 0 (net ++ [c]) (pairsAt_own v8) (by simp; omega) hF2 hR
      rw [List.length_append, List.length_singleton] at hu2
      simp -implicitDefEqProofs (disch := omega) only [List.any_cons, List.any_nil, Nat.reduceEqDiff, List.map_cons, List.map_nil, Option.map_some, Option.map_none, List.nil_append, ↓reduceIte, vcu0, vcu1, vcu2, vcu3, vcu4, vcu5, vcu6, vcu7, vcu8, vcu9, vcu10, vcu11, vcu12, vcu13, vcu14, vcu15, vcu16, vcu17, vcu18, vcu19, vcu20, vcu21, vcu22, vcu23, vcu24, vcu25, vcu26, ↓vcd0, ↓vcd1, ↓vcd2, ↓vcd3, h3, h4, h5, h6]
      refine hu2.mono ?_
      rintro r _ ⟨rfl, rfl⟩
      rename_i τ8
      clear hu2
      generalize usV n (net ++ [c]) = X at htw2
      rcases huc with hU1 | ⟨k, hU1, hkl, hku⟩
      · simp -implicitDefEqProofs (disch := omega) only [List.any_cons, List.any_nil, Nat.reduceEqDiff, List.map_cons, List.map_nil, Option.map_some, Option.map_none, List.nil_append, ↓reduceIte, vcu0, vcu1, vcu2, vcu3, vcu4, vcu5, vcu6, vcu7, vcu8, vcu9, vcu10, vcu11, vcu12, vcu13, vcu14, vcu15, vcu16, vcu17, vcu18, vcu19, vcu20, vcu21, vcu22, vcu23, vcu24, vcu25, vcu26, ↓vcd0, ↓vcd1, ↓vcd2, ↓vcd3, opK_some, h3, h4, h5, h6, hU1]
        refine fin_one Try.results13 ?_
        simp -implicitDefEqProofs (disch := omega) only [List.any_cons, List.any_nil, Nat.reduceEqDiff, List.map_cons, List.map_nil, Option.map_some, Option.map_none, List.nil_append, ↓reduceIte, vcu0, vcu1, vcu2, vcu3, vcu4, vcu5, vcu6, vcu7, vcu8, vcu9, vcu10, vcu11, vcu12, vcu13, vcu14, vcu15, vcu16, vcu17, vcu18, vcu19, vcu20, vcu21, vcu22, vcu23, vcu24, vcu25, vcu26, ↓vcd0, ↓vcd1, ↓vcd2, ↓vcd3]
      · have e9 : ((k : Int) + 1).toNat = k + 1 := by omega
        simp -implicitDefEqProofs (disch := omega) only [List.any_cons, List.any_nil, Nat.reduceEqDiff, List.map_cons, List.map_nil, Option.map_some, Option.map_none, List.nil_append, ↓reduceIte, vcu0, vcu1, vcu2, vcu3, vcu4, vcu5, vcu6, vcu7, vcu8, vcu9, vcu10, vcu11, vcu12, vcu13, vcu14, vcu15, vcu16, vcu17, vcu18, vcu19, vcu20, vcu21, vcu22, vcu23, vcu24, vcu25, vcu26, ↓vcd0, ↓vcd1, ↓vcd2, ↓vcd3, opK_some, h3, h4, h5, h6, hU1]
        refine region_tree mixed (quiets [1, 2, 3, 5, 6, 7, 8] (.one 0 (.one 4 (.one 9 (.one 10 .stop))))) [] (by kernel_rfl) (by kernel_rfl) (fun p hp => absurd hp (by simp)) ?_
        refine tree_quiets (fun _ => none) _ _ _ (fun _ _ _ _ => fun x ob e => by cases e) (by kernel_rfl) (by kernel_rfl) ?_
        simp -implicitDefEqProofs (disch := omega) only [List.any_cons, List.any_nil, Nat.reduceEqDiff, List.map_cons, List.map_nil, Option.map_some, Option.map_none, List.nil_append, ↓reduceIte, vcu0, vcu1, vcu2, vcu3, vcu4, vcu5, vcu6, vcu7, vcu8, vcu9, vcu10, vcu11, vcu12, vcu13, vcu14, vcu15, vcu16, vcu17, vcu18, vcu19, vcu20, vcu21, vcu22, vcu23, vcu24, vcu25, vcu26, ↓vcd0, ↓vcd1, ↓vcd2, ↓vcd3, pickOps_nil, pickOps_cons, pickO_some, List.getElem?_cons_succ, List.getElem?_cons_zero, h3, h4, h5, h6, hU1]
        refine tree_one rfl ?_
        refine r_lit el23 (out := #[]) (by kernel_rfl) (by kernel_rfl) fun e τ5 n5 s5 v5 => ?_
        simp -implicitDefEqProofs (disch := omega) only [List.any_cons, List.any_nil, Nat.reduceEqDiff, List.map_cons, List.map_nil, Option.map_some, Option.map_none, List.nil_append, ↓reduceIte, vcu0, vcu1, vcu2, vcu3, vcu4, vcu5, vcu6, vcu7, vcu8, vcu9, vcu10, vcu11, vcu12, vcu13, vcu14, vcu15, vcu16, vcu17, vcu18, vcu19, vcu20, vcu21, vcu22, vcu23, vcu24, vcu25, vcu26, ↓vcd0, ↓vcd1, ↓vcd2, ↓vcd3]
        refine ⟨keep_of rfl (fun p hp => absurd hp (by simp)), tree_one rfl ?_⟩
        refine r_pushPK (β := τ8) (v := .slice (some ⟨e, 0, none⟩) 0 2) (e := g2) (o := 0) (m := k) (cs := []) (ds := net.take k) el23 (by omega) sl23 (by simp -implicitDefEqProofs (disch := omega) only [List.any_cons, List.any_nil, Nat.reduceEqDiff, List.map_cons, List.map_nil, Option.map_some, Option.map_none, List.nil_append, ↓reduceIte, vcu0, vcu1, vcu2, vcu3, vcu4, vcu5, vcu6, vcu7, vcu8, vcu9, vcu10, vcu11, vcu12, vcu13, vcu14, vcu15, vcu16, vcu17, vcu18, vcu19, vcu20, vcu21, vcu22, vcu23, vcu24, vcu25, vcu26, ↓vcd0, ↓vcd1, ↓vcd2, ↓vcd3]) (.inr ⟨e, rfl, v5, n5⟩) (by simp -implicitDefEqProofs (disch := omega) only [List.any_cons, List.any_nil, Nat.reduceEqDiff, List.map_cons, List.map_nil, Option.map_some, Option.map_none, List.nil_append, ↓reduceIte, vcu0, vcu1, vcu2, vcu3, vcu4, vcu5, vcu6, vcu7, vcu8, vcu9, vcu10, vcu11, vcu12, vcu13, vcu14, vcu15, vcu16, vcu17, vcu18, vcu19, vcu20, vcu21, vcu22, vcu23, vcu24, vcu25, vcu26, ↓vcd0, ↓vcd1, ↓vcd2, ↓vcd3, Int.toNat_natCast]) (pairsAt_take (pairsAt_own (s5 _ _ hg2)) k) (by simp; omega) (by simp; omega) fun g6 τ6 k6 n6 v6 => ?_
        simp -implicitDefEqProofs (disch := omega) only [List.any_cons, List.any_nil, Nat.reduceEqDiff, List.map_cons, List.map_nil, Option.map_some, Option.map_none, List.nil_append, ↓reduceIte, vcu0, vcu1, vcu2, vcu3, vcu4, vcu5, vcu6, vcu7, vcu8, vcu9, vcu10, vcu11, vcu12, vcu13, vcu14, vcu15, vcu16, vcu17, vcu18, vcu19, vcu20, vcu21, vcu22, vcu23, vcu24, vcu25, vcu26, ↓vcd0, ↓vcd1, ↓vcd2, ↓vcd3]
        refine ⟨keep_of rfl (fun p hp => absurd hp (by simp)), tree_one rfl ?_⟩
        have s6 : Sub τ8 τ6 := fun x ob e => k6 x ob (by rw [e]; simp) (s5 _ _ e)
        refine r_pushPK (β := τ8) (e := g2) (o := 0 + (k + 1) * 2) (m := net.length - (k + 1)) (cs := [] ++ net.take k) (ds := net.drop (k + 1)) el23 (by omega) sl23 rfl (.inr ⟨g6, by simp -implicitDefEqProofs (disch := omega) only [List.any_cons, List.any_nil, Nat.reduceEqDiff, List.map_cons, List.map_nil, Option.map_some, Option.map_none, List.nil_append, ↓reduceIte, vcu0, vcu1, vcu2, vcu3, vcu4, vcu5, vcu6, vcu7, vcu8, vcu9, vcu10, vcu11, vcu12, vcu13, vcu14, vcu15, vcu16, vcu17, vcu18, vcu19, vcu20, vcu21, vcu22, vcu23, vcu24, vcu25, vcu26, ↓vcd0, ↓vcd1, ↓vcd2, ↓vcd3]; simp; omega, v6, free_sub s5 n6⟩) (by simp -implicitDefEqProofs (disch := omega) only [List.any_cons, List.any_nil, Nat.reduceEqDiff, List.map_cons, List.map_nil, Option.map_some, Option.map_none, List.nil_append, ↓reduceIte, vcu0, vcu1, vcu2, vcu3, vcu4, vcu5, vcu6, vcu7, vcu8, vcu9, vcu10, vcu11, vcu12, vcu13, vcu14, vcu15, vcu16, vcu17, vcu18, vcu19, vcu20, vcu21, vcu22, vcu23, vcu24, vcu25, vcu26, ↓vcd0, ↓vcd1, ↓vcd2, ↓vcd3, e9]) (pairsAt_drop (pairsAt_own (s6 _ _ hg2)) (k + 1)) (by simp) (by simp; omega) fun g7 τ7 k7 n7 v7 => ?_
        simp -implicitDefEqProofs (disch := omega) only [List.any_cons, List.any_nil, Nat.reduceEqDiff, List.map_cons, List.map_nil, Option.map_some, Option.map_none, List.nil_append, ↓reduceIte, vcu0, vcu1, vcu2, vcu3, vcu4, vcu5, vcu6, vcu7, vcu8, vcu9, vcu10, vcu11, vcu12, vcu13, vcu14, vcu15, vcu16, vcu17, vcu18, vcu19, vcu20, vcu21, vcu22, vcu23, vcu24, vcu25, vcu26, ↓vcd0, ↓vcd1, ↓vcd2, ↓vcd3]
        refine ⟨keep_of rfl (fun p hp => absurd hp (by simp)), tree_one rfl ?_⟩
        simp -implicitDefEqProofs (disch := omega) only [List.any_cons, List.any_nil, Nat.reduceEqDiff, List.map_cons, List.map_nil, Option.map_some, Option.map_none, List.nil_append, ↓reduceIte, vcu0, vcu1, vcu2, vcu3, vcu4, vcu5, vcu6, vcu7, vcu8, vcu9, vcu10, vcu11, vcu12, vcu13, vcu14, vcu15, vcu16, vcu17, vcu18, vcu19, vcu20, vcu21, vcu22, vcu23, vcu24, vcu25, vcu26, ↓vcd0, ↓vcd1, ↓vcd2, ↓vcd3]
        refine ⟨.inl rfl, tree_stop ?_⟩
        have s7 : Sub τ8 τ7 := fun x ob e => k7 x ob (by rw [e]; simp) (s6 _ _ e)
        rw [List.nil_append] at v7
        have hl7 : (net.take k).length + (net.length - (k + 1)) = net.length - 1 := by simp; omega
        have hl8 : (net.take k ++ net.drop (k + 1)).length = net.length - 1 := by simp; omega
        have hn1 := implNS_at (w0 := w0) τ7 n g7 0 (net.take k ++ net.drop (k + 1)) (pairsAt_own v7) (by omega) (fun c hc => by
          rcases List.mem_append.1 hc with hc | hc
          · exact hF c (List.mem_of_mem_take hc)
          · exact hF c (List.mem_of_mem_drop hc)) hR
        rw [hl8, idle_srt hN hkl hku] at hn1
        simp -implicitDefEqProofs (disch := omega) only [List.any_cons, List.any_nil, Nat.reduceEqDiff, List.map_cons, List.map_nil, Option.map_some, Option.map_none, List.nil_append, ↓reduceIte, vcu0, vcu1, vcu2, vcu3, vcu4, vcu5, vcu6, vcu7, vcu8, vcu9, vcu10, vcu11, vcu12, vcu13, vcu14, vcu15, vcu16, vcu17, vcu18, vcu19, vcu20, vcu21, vcu22, vcu23, vcu24, vcu25, vcu26, ↓vcd0, ↓vcd1, ↓vcd2, ↓vcd3, h3, h4, h5, h6, hU1, hl7, List.nil_append]
        refine hn1.mono ?_
        rintro r _ ⟨rfl, rfl⟩
        simp -implicitDefEqProofs (disch := omega) only [List.any_cons, List.any_nil, Nat.reduceEqDiff, List.map_cons, List.map_nil, Option.map_some, Option.map_none, List.nil_append, ↓reduceIte, vcu0, vcu1, vcu2, vcu3, vcu4, vcu5, vcu6, vcu7, vcu8, vcu9, vcu10, vcu11, vcu12, vcu13, vcu14, vcu15, vcu16, vcu17, vcu18, vcu19, vcu20, vcu21, vcu22, vcu23, vcu24, vcu25, vcu26, ↓vcd0, ↓vcd1, ↓vcd2, ↓vcd3, opK_some, h3, h4, h5, h6, hU1]
        refine (implNS_at _ n g2 0 net (pairsAt_own (s7 _ _ hg2)) (by omega) hF hR).mono ?_
        rintro r _ ⟨rfl, rfl⟩
        simp -implicitDefEqProofs (disch := omega) only [List.any_cons, List.any_nil, Nat.reduceEqDiff, List.map_cons, List.map_nil, Option.map_some, Option.map_none, List.nil_append, ↓reduceIte, vcu0, vcu1, vcu2, vcu3, vcu4, vcu5, vcu6, vcu7, vcu8, vcu9, vcu10, vcu11, vcu12, vcu13, vcu14, vcu15, vcu16, vcu17, vcu18, vcu19, vcu20, vcu21, vcu22, vcu23, vcu24, vcu25, vcu26, ↓vcd0, ↓vcd1, ↓vcd2, ↓vcd3, opK_some, h3, h4, h5, h6, hU1, beq_self_eq_true]
        refine fin_one Try.results13 ?_
        simp -implicitDefEqProofs (disch := omega) only [List.any_cons, List.any_nil, Nat.reduceEqDiff, List.map_cons, List.map_nil, Option.map_some, Option.map_none, List.nil_append, ↓reduceIte, vcu0, vcu1, vcu2, vcu3, vcu4, vcu5, vcu6, vcu7, vcu8, vcu9, vcu10, vcu11, vcu12, vcu13, vcu14, vcu15, vcu16, vcu17, vcu18, vcu19, vcu20, vcu21, vcu22, vcu23, vcu24, vcu25, vcu26, ↓vcd0, ↓vcd1, ↓vcd2, ↓vcd3]
    case' neg =>
      have hlen2 : net.length = 0 ∨ 20 ≤ net.length := by omega
      generalize τ = τ8 at hg2 ⊢
      rcases hlen2 with h0 | h20
      · rcases huc with hU1 | ⟨k, hU1, hkl, hku⟩
        · simp -implicitDefEqProofs (disch := omega) only [List.any_cons, List.any_nil, Nat.reduceEqDiff, List.map_cons, List.map_nil, Option.map_some, Option.map_none, List.nil_append, ↓reduceIte, vcu0, vcu1, vcu2, vcu3, vcu4, vcu5, vcu6, vcu7, vcu8, vcu9, vcu10, vcu11, vcu12, vcu13, vcu14, vcu15, vcu16, vcu17, vcu18, vcu19, vcu20, vcu21, vcu22, vcu23, vcu24, vcu25, vcu26, ↓vcd0, ↓vcd1, ↓vcd2, ↓vcd3, opK_some, hU1]
          refine fin_one Try.results13 ?_
          simp -implicitDefEqProofs (disch := omega) only [List.any_cons, List.any_nil, Nat.reduceEqDiff, List.map_cons, List.map_nil, Option.map_some, Option.map_none, List.nil_append, ↓reduceIte, vcu0, vcu1, vcu2, vcu3, vcu4, vcu5, vcu6, vcu7, vcu8, vcu9, vcu10, vcu11, vcu12, vcu13, vcu14, vcu15, vcu16, vcu17, vcu18, vcu19, vcu20, vcu21, vcu22, vcu23, vcu24, vcu25, vcu26, ↓vcd0, ↓vcd1, ↓vcd2, ↓vcd3]
        · omega
      · rcases huc with hU1 | ⟨k, hU1, hkl, hku⟩
        · simp -implicitDefEqProofs (disch := omega) only [List.any_cons, List.any_nil, Nat.reduceEqDiff, List.map_cons, List.map_nil, Option.map_some, Option.map_none, List.nil_append, ↓reduceIte, vcu0, vcu1, vcu2, vcu3, vcu4, vcu5, vcu6, vcu7, vcu8, vcu9, vcu10, vcu11, vcu12, vcu13, vcu14, vcu15, vcu16, vcu17, vcu18, vcu19, vcu20, vcu21, vcu22, vcu23, vcu24, vcu25, vcu26, ↓vcd0, ↓vcd1, ↓vcd2, ↓vcd3, opK_some, hU1]
          refine fin_one Try.results13 ?_
          simp -implicitDefEqProofs (disch := omega) only [List.any_cons, List.any_nil, Nat.reduceEqDiff, List.map_cons, List.map_nil, Option.map_some, Option.map_none, List.nil_append, ↓reduceIte, vcu0, vcu1, vcu2, vcu3, vcu4, vcu5, vcu6, vcu7, vcu8, vcu9, vcu10, vcu11, vcu12, vcu13, vcu14, vcu15, vcu16, vcu17, vcu18, vcu19, vcu20, vcu21, vcu22, vcu23, vcu24, vcu25, vcu26, ↓vcd0, ↓vcd1, ↓vcd2, ↓vcd3]
        · have e9 : ((k : Int) + 1).toNat = k + 1 := by omega
          simp -implicitDefEqProofs (disch := omega) only [List.any_cons, List.any_nil, Nat.reduceEqDiff, List.map_cons, List.map_nil, Option.map_some, Option.map_none, List.nil_append, ↓reduceIte, vcu0, vcu1, vcu2, vcu3, vcu4, vcu5, vcu6, vcu7, vcu8, vcu9, vcu10, vcu11, vcu12, vcu13, vcu14, vcu15, vcu16, vcu17, vcu18, vcu19, vcu20, vcu21, vcu22, vcu23, vcu24, vcu25, vcu26, ↓vcd0, ↓vcd1, ↓vcd2, ↓vcd3, opK_some, hU1]
          refine region_tree mixed (quiets [1, 2, 3, 5, 6, 7, 8] (.one 0 (.one 4 (.one 9 (.one 10 .stop))))) [] (by kernel_rfl) (by kernel_rfl) (fun p hp => absurd hp (by simp)) ?_
          refine tree_quiets (fun _ => none) _ _ _ (fun _ _ _ _ => fun x ob e => by cases e) (by kernel_rfl) (by kernel_rfl) ?_
          simp -implicitDefEqProofs (disch := omega) only [List.any_cons, List.any_nil, Nat.reduceEqDiff, List.map_cons, List.map_nil, Option.map_some, Option.map_none, List.nil_append, ↓reduceIte, vcu0, vcu1, vcu2, vcu3, vcu4, vcu5, vcu6, vcu7, vcu8, vcu9, vcu10, vcu11, vcu12, vcu13, vcu14, vcu15, vcu16, vcu17, vcu18, vcu19, vcu20, vcu21, vcu22, vcu23, vcu24, vcu25, vcu26, ↓vcd0, ↓vcd1, ↓vcd2, ↓vcd3, pickOps_nil, pickOps_cons, pickO_some, List.getElem?_cons_succ, List.getElem?_cons_zero, hU1]
          refine tree_one rfl ?_
          refine r_lit el23 (out := #[]) (by kernel_rfl) (by kernel_rfl) fun e τ5 n5 s5 v5 => ?_
          simp -implicitDefEqProofs (disch := omega) only [List.any_cons, List.any_nil, Nat.reduceEqDiff, List.map_cons, List.map_nil, Option.map_some, Option.map_none, List.nil_append, ↓reduceIte, vcu0, vcu1, vcu2, vcu3, vcu4, vcu5, vcu6, vcu7, vcu8, vcu9, vcu10, vcu11, vcu12, vcu13, vcu14, vcu15, vcu16, vcu17, vcu18, vcu19, vcu20, vcu21, vcu22, vcu23, vcu24, vcu25, vcu26, ↓vcd0, ↓vcd1, ↓vcd2, ↓vcd3]
          refine ⟨keep_of rfl (fun p hp => absurd hp (by simp)), tree_one rfl ?_⟩
          refine r_pushPK (β := τ8) (v := .slice (some ⟨e, 0, none⟩) 0 2) (e := g2) (o := 0) (m := k) (cs := []) (ds := net.take k) el23 (by omega) sl23 (by simp -implicitDefEqProofs (disch := omega) only [List.any_cons, List.any_nil, Nat.reduceEqDiff, List.map_cons, List.map_nil, Option.map_some, Option.map_none, List.nil_append, ↓reduceIte, vcu0, vcu1, vcu2, vcu3, vcu4, vcu5, vcu6, vcu7, vcu8, vcu9, vcu10, vcu11, vcu12, vcu13, vcu14, vcu15, vcu16, vcu17, vcu18, vcu19, vcu20, vcu21, vcu22, vcu23, vcu24, vcu25, vcu26, ↓vcd0, ↓vcd1, ↓vcd2, ↓vcd3]) (.inr ⟨e, rfl, v5, n5⟩) (by simp -implicitDefEqProofs (disch := omega) only [List.any_cons, List.any_nil, Nat.reduceEqDiff, List.map_cons, List.map_nil, Option.map_some, Option.map_none, List.nil_append, ↓reduceIte, vcu0, vcu1, vcu2, vcu3, vcu4, vcu5, vcu6, vcu7, vcu8, vcu9, vcu10, vcu11, vcu12, vcu13, vcu14, vcu15, vcu16, vcu17, vcu18, vcu19, vcu20, vcu21, vcu22, vcu23, vcu24, vcu25, vcu26, ↓vcd0, ↓vcd1, ↓vcd2, ↓vcd3, Int.toNat_natCast]) (pairsAt_take (pairsAt_own (s5 _ _ hg2)) k) (by simp; omega) (by simp; omega) fun g6 τ6 k6 n6 v6 => ?_
          simp -implicitDefEqProofs (disch := omega) only [List.any_cons, List.any_nil, Nat.reduceEqDiff, List.map_cons, List.map_nil, Option.map_some, Option.map_none, List.nil_append, ↓reduceIte, vcu0, vcu1, vcu2, vcu3, vcu4, vcu5, vcu6, vcu7, vcu8, vcu9, vcu10, vcu11, vcu12, vcu13, vcu14, vcu15, vcu16, vcu17, vcu18, vcu19, vcu20, vcu21, vcu22, vcu23, vcu24, vcu25, vcu26, ↓vcd0, ↓vcd1, ↓vcd2, ↓vcd3]
          refine ⟨keep_of rfl (fun p hp => absurd hp (by simp)), tree_one rfl ?_⟩
          have s6 : Sub τ8 τ6 := fun x ob e => k6 x ob (by rw [e]; simp) (s5 _ _ e)
          refine r_pushPK (β := τ8) (e := g2) (o := 0 + (k + 1) * 2) (m := net.length - (k + 1)) (cs := [] ++ net.take k) (ds := net.drop (k + 1)) el23 (by omega) sl23 rfl (.inr ⟨g6, by simp -implicitDefEqProofs (disch := omega) only [List.any_cons, List.any_nil, Nat.reduceEqDiff, List.map_cons, List.map_nil, Option.map_some, Option.map_none, List.nil_append, ↓reduceIte, vcu0, vcu1, vcu2, vcu3, vcu4, vcu5, vcu6, vcu7, vcu8, vcu9, vcu10, vcu11, vcu12, vcu13, vcu14, vcu15, vcu16, vcu17, vcu18, vcu19, vcu20, vcu21, vcu22, vcu23, vcu24, vcu25, vcu26, ↓vcd0, ↓vcd1, ↓vcd2, ↓vcd3]; simp; omega, v6, free_sub s5 n6⟩) (by simp -implicitDefEqProofs (disch := omega) only [List.any_cons, List.any_nil, Nat.reduceEqDiff, List.map_cons, List.map_nil, Option.map_some, Option.map_none, List.nil_append, ↓reduceIte, vcu0, vcu1, vcu2, vcu3, vcu4, vcu5, vcu6, vcu7, vcu8, vcu9, vcu10, vcu11, vcu12, vcu13, vcu14, vcu15, vcu16, vcu17, vcu18, vcu19, vcu20, vcu21, vcu22, vcu23, vcu24, vcu25, vcu26, ↓vcd0, ↓vcd1, ↓vcd2, ↓vcd3, e9]) (pairsAt_drop (pairsAt_own (s6 _ _ hg2)) (k + 1)) (by simp) (by simp; omega) fun g7 τ7 k7 n7 v7 => ?_
          simp -implicitDefEqProofs (disch := omega) only [List.any_cons, List.any_nil, Nat.reduceEqDiff, List.map_cons, List.map_nil, Option.map_some, Option.map_none, List.nil_append, ↓reduceIte, vcu0, vcu1, vcu2, vcu3, vcu4, vcu5, vcu6, vcu7, vcu8, vcu9, vcu10, vcu11, vcu12, vcu13, vcu14, vcu15, vcu16, vcu17, vcu18, vcu19, vcu20, vcu21, vcu22, vcu23, vcu24, vcu25, vcu26, ↓vcd0, ↓vcd1, ↓vcd2, ↓vcd3]
          refine ⟨keep_of rfl (fun p hp => absurd hp (by simp)), tree_one rfl ?_⟩
          simp -implicitDefEqProofs (disch := omega) only [List.any_cons, List.any_nil, Nat.reduceEqDiff, List.map_cons, List.map_nil, Option.map_some, Option.map_none, List.nil_append, ↓reduceIte, vcu0, vcu1, vcu2, vcu3, vcu4, vcu5, vcu6, vcu7, vcu8, vcu9, vcu10, vcu11, vcu12, vcu13, vcu14, vcu15, vcu16, vcu17, vcu18, vcu19, vcu20, vcu21, vcu22, vcu23, vcu24, vcu25, vcu26, ↓vcd0, ↓vcd1, ↓vcd2, ↓vcd3]
          refine ⟨.inl rfl, tree_stop ?_⟩
          have s7 : Sub τ8 τ7 := fun x ob e => k7 x ob (by rw [e]; simp) (s6 _ _ e)
          rw [List.nil_append] at v7
          have hl7 : (net.take k).length + (net.length - (k + 1)) = net.length - 1 := by simp; omega
          have hl8 : (net.take k ++ net.drop (k + 1)).length = net.length - 1 := by simp; omega
          have hn1 := implNS_at (w0 := w0) τ7 n g7 0 (net.take k ++ net.drop (k + 1)) (pairsAt_own v7) (by omega) (fun c hc => by
            rcases List.mem_append.1 hc with hc | hc
            · exact hF c (List.mem_of_mem_take hc)
            · exact hF c (List.mem_of_mem_drop hc)) hR
          rw [hl8, idle_srt hN hkl hku] at hn1
          simp -implicitDefEqProofs (disch := omega) only [List.any_cons, List.any_nil, Nat.reduceEqDiff, List.map_cons, List.map_nil, Option.map_some, Option.map_none, List.nil_append, ↓reduceIte, vcu0, vcu1, vcu2, vcu3, vcu4, vcu5, vcu6, vcu7, vcu8, vcu9, vcu10, vcu11, vcu12, vcu13, vcu14, vcu15, vcu16, vcu17, vcu18, vcu19, vcu20, vcu21, vcu22, vcu23, vcu24, vcu25, vcu26, ↓vcd0, ↓vcd1, ↓vcd2, ↓vcd3, hU1, hl7, List.nil_append]
          refine hn1.mono ?_
          rintro r _ ⟨rfl, rfl⟩
          simp -implicitDefEqProofs (disch := omega) only [List.any_cons, List.any_nil, Nat.reduceEqDiff, List.map_cons, List.map_nil, Option.map_some, Option.map_none, List.nil_append, ↓reduceIte, vcu0, vcu1, vcu2, vcu3, vcu4, vcu5, vcu6, vcu7, vcu8, vcu9, vcu10, vcu11, vcu12, vcu13, vcu14, vcu15, vcu16, vcu17, vcu18, vcu19, vcu20, vcu21, vcu22, vcu23, vcu24, vcu25, vcu26, ↓vcd0, ↓vcd1, ↓vcd2, ↓vcd3, opK_some, hU1]
          refine (implNS_at _ n g2 0 net (pairsAt_own (s7 _ _ hg2)) (by omega) hF hR).mono ?_
          rintro r _ ⟨rfl, rfl⟩
          simp -implicitDefEqProofs (disch := omega) only [List.any_cons, List.any_nil, Nat.reduceEqDiff, List.map_cons, List.map_nil, Option.map_some, Option.map_none, List.nil_append, ↓reduceIte, vcu0, vcu1, vcu2, vcu3, vcu4, vcu5, vcu6, vcu7, vcu8, vcu9, vcu10, vcu11, vcu12, vcu13, vcu14, vcu15, vcu16, vcu17, vcu18, vcu19, vcu20, vcu21, vcu22, vcu23, vcu24, vcu25, vcu26, ↓vcd0, ↓vcd1, ↓vcd2, ↓vcd3, opK_some, hU1, beq_self_eq_true]
          refine fin_one Try.results13 ?_
          simp -implicitDefEqProofs (disch := omega) only [List.any_cons, List.any_nil, Nat.reduceEqDiff, List.map_cons, List.map_nil, Option.map_some, Option.map_none, List.nil_append, ↓reduceIte, vcu0, vcu1, vcu2, vcu3, vcu4, vcu5, vcu6, vcu7, vcu8, vcu9, vcu10, vcu11, vcu12, vcu13, vcu14, vcu15, vcu16, vcu17, vcu18, vcu19, vcu20, vcu21, vcu22, vcu23, vcu24, vcu25, vcu26, ↓vcd0, ↓vcd1, ↓vcd2, ↓vcd3]

open Go.ChangeShapes Go.WideShapes Go.ChangeAt Go.RowKit

set_option maxRecDepth 100000 in
theorem lifted13 (os : Os) (started : os.Started) (H : Type) (enc : TypeId × Value → H) :
    ReturnsInHanded {} Try.checked os 13 .any (Rows.fnNetUselessSpec.pre6 enc Try.prog Try.f13 Rows.fnNetUselessRow.domain false) (Rows.fnNetUselessSpec.post enc Try.prog Try.f13 false true false false) := by
  refine returnsInHanded_of_change (C := Try.checked) own started (by kernel_rfl) Try.func13
    (ChangeSpec.witness6 (enc := enc) (C := Try.checked) false ⟨#[], #[.slice none 0 0], []⟩ 8 (by kernel_rfl) (by kernel_rfl) (by kernel_rfl) (by kernel_rfl)) ?_
  intro W base args ds gs before hval hW _ _
  have hW' := hW
  obtain ⟨p, q, hA, hV, -, -, -⟩ := hW'
  rw [Try.params13] at hA hval
  obtain ⟨v0, vs0, d0, ds0, p0, q0, hargs, rfl, rfl, h0, r0⟩ := trodAll_cons hA
  obtain ⟨rfl, rfl, rfl⟩ := trodAll_nil r0
  obtain ⟨rfl, rfl⟩ := trodVars_none hV
  obtain rfl : args = #[v0] := by cases args; simp_all
  obtain ⟨β0, σ0, a0, zs0, L0, U0, S0, R0, I0, w0, m0⟩ := start_ints Try.underlying22 Try.underlying5 co5 (Start.start W) (hval 0 22 v0 rfl rfl) h0
  refine ((law13 σ0 a0 zs0 (I0) m0 w0).2 noProt β0 W [v0] S0.rel (.cons R0 (.nil _))).mono fun e W' h => ?_
  obtain ⟨β', r, r', σ', -, rfl, hr, hrel, rfl⟩ := h
  cases hr
  exact ⟨_, rfl, law_post laidOut hW rfl rfl (by rw [Try.params13]; intro t ht; simp only [List.mem_cons, List.not_mem_nil, or_false, or_self] at ht; rcases ht with rfl <;> exact ⟨by kernel_rfl, of_decide_eq_true (by kernel_rfl)⟩) rfl Try.underlying4 hrel.below⟩

theorem facts13 : joinedFacts Try.prog 13 Try.f13 Rows.fnNetUselessSpec Rows.fnNetUselessRow = true := by
  unfold joinedFacts
  rw [mayE, liftsE, makeE]
  kernel_rfl

theorem proved13 : Rows.FnNetUselessSaid :=
  OpenClaim.holds_of_wide 13 Try.f13 rfl rfl rfl rfl rfl rfl rfl ⟨rfl, rfl, rfl, rfl, rfl⟩ rfl rfl rfl rfl rfl (by kernel_rfl) Try.func13 facts13 (of_decide_eq_true (by kernel_rfl))
    (by unfold Func.isWrapper; first | (rw [if_pos (by decide +kernel)]; kernel_rfl) | (rw [if_neg (by decide +kernel)]; exact ⟨rfl, rfl⟩))
    (fun os started H enc _ => lifted13 os started H enc)


end Go.Proofs.Ytnkpoflhdfchjaa

/- Rows of pairs of one's own that may still be nothing; marks; the networks of bubbles and of bricks. -/
import Derived.Test.YtnkpoflhdfchjaaNf
set_option linter.unusedSimpArgs false
set_option linter.unusedVariables false
namespace Go.Proofs.Ytnkpoflhdfchjaa
open Go Go.Abs Go.RowKit
variable {w0 : World}

/-- nil, or a row of its own that is newer than β -/
def OwnP (β σ : AHeap) (v : Value) (cs : List (Int × Int)) : Prop := (v = .slice none 0 0 ∧ cs = []) ∨ ∃ g, v = .slice (some ⟨g, 0, none⟩) cs.length 2 ∧ σ g = some ⟨pairs cs, false⟩ ∧ β g = none
theorem OwnP.pairs {β σ : AHeap} {v : Value} {cs : List (Int × Int)} (h : OwnP β σ v cs) : Pairs σ v cs := h.imp id fun ⟨g, e, hg, _⟩ => ⟨g, 0, e, pairsAt_own hg⟩
theorem OwnP.sub {β σ τ : AHeap} {v : Value} {cs : List (Int × Int)} (h : OwnP β σ v cs) (hs : Sub σ τ) : OwnP β τ v cs := h.imp id fun ⟨g, e, hg, hn⟩ => ⟨g, e, hs _ _ hg, hn⟩
theorem r_pushP {b0 : Base} {P : Program} {a : AFrame} {σ β : AHeap} {K : AK} {all os : List Oper} {d : Nat} {ty : TypeId} {pos : String} {af : Array Edge} {t u : TypeId} {zv : Value} {b : Nat} {x y : Operand} {v : Value} {e o m : Nat} {cs ds : List (Int × Int)}
    (hE : Elems P t 2 zv b) (hb : b ≤ 64) (hu : ∃ e2, P.underlying u = some (.slice e2)) (hs : Sub β σ) (hx : ev a x = v) (hv : OwnP β σ v cs) (hy : ev a y = .slice (some ⟨e, o, none⟩) m 2) (he : PairsAt σ e o ds) (hm : ds.length = m) (hl : cs.length + m ≤ 1048576)
    (hk : ∀ g' τ, Sub β τ → β g' = none → τ g' = some ⟨pairs (cs ++ ds), false⟩ → vcR P b0 false all os (fset a d (.slice (some ⟨g', 0, none⟩) (cs.length + m) 2)) τ K) :
    vcR P b0 false all (⟨some d, .call ⟨.builtin .append, #[x, y], #[t, u]⟩, ty, pos, af, none⟩ :: os) a σ K := by
  subst hm
  have hd2 : (pairs ds).length / 2 = ds.length := by rw [pairs_length]; omega
  rcases hv with ⟨rfl, rfl⟩ | ⟨g, rfl, hg, hn⟩
  · refine r_push_nil hE hu hx (by rw [hy]; exact acells_pairs he) ?_ fun g' τ h1 h2 h3 => ?_
    · rw [pairs_length]
      have : ds.length * 2 * b ≤ 2097152 * 64 := Nat.mul_le_mul (by simp at hl; omega) hb
      simp at hl
      omega
    · rw [hd2]
      have := hk g' τ (hs.trans h2) (free_sub hs h1) (by simpa using h3)
      simpa using this
  · refine r_push hE hu hx hg (by rw [pairs_length]) (by rw [hy]; exact acells_pairs he) (pairs_one ds) ?_ fun g' τ h1 h2 h3 => ?_
    · rw [pairs_length]
      have : (cs.length * 2 + ds.length * 2) * b ≤ 2097152 * 64 := Nat.mul_le_mul (by omega) hb
      omega
    · rw [hd2]
      rw [← pairs_append] at h3
      exact hk g' τ (h2.sub hs hn) (free_sub hs h1) h3

def marks (n : Nat) (k : Int) : List (Int × Int) := (List.range n).map fun (i : Nat) => (k + 2 * i, k + 2 * i + 1)
theorem marks_length (n : Nat) (k : Int) : (marks n k).length = n := by simp [marks]
theorem marks_getD {n i : Nat} {k : Int} (h : i < n) : (marks n k).getD i (0, 0) = (k + 2 * i, k + 2 * i + 1) := by simp [marks, List.getD, h]
theorem set_drop {α : Type} (A xs : List α) (v : α) {i : Nat} (hA : A.length = i) (h : i < xs.length) : (A ++ xs.drop i).set i v = A ++ [v] ++ xs.drop (i + 1) := by
  rw [List.set_append_right _ _ (by omega), hA, Nat.sub_self, List.drop_eq_getElem_cons h, List.set_cons_zero, List.append_assoc]; rfl
theorem marks_succ (n : Nat) (k : Int) : marks (n + 1) k = marks n k ++ [(k + 2 * n, k + 2 * n + 1)] := by simp [marks, List.range_succ]
theorem pairs_set1 (cs : List (Int × Int)) (i : Nat) (h : i < cs.length) (x : Int) : (pairs cs).set (i * 2) (.int .i64 x) = pairs (cs.set i (x, (cs.getD i (0, 0)).2)) := by
  have g := pairs_get cs i h
  rw [← pairs_set _ _ h, ← lwrite_one _ _ _ (by rw [pairs_length]; omega)]
  apply List.ext_getElem?
  intro j
  have hl := pairs_length cs
  rw [lwrite_get _ _ _ (by simp; omega), lwrite_get _ _ _ (by simp; omega)]
  by_cases h1 : j = i * 2
  · subst h1; simp
  · by_cases h2 : j = i * 2 + 1
    · subst h2; rw [if_neg (by simp only [List.length_cons, List.length_nil]; omega), if_pos (by simp only [List.length_cons, List.length_nil]; omega), g.2]; simp
    · rw [if_neg (by simp; omega), if_neg (by simp; omega)]
theorem pairs_set2 (cs : List (Int × Int)) (i : Nat) (h : i < cs.length) (x : Int) : (pairs cs).set (i * 2 + 1) (.int .i64 x) = pairs (cs.set i ((cs.getD i (0, 0)).1, x)) := by
  have g := pairs_get cs i h
  rw [← pairs_set _ _ h, ← lwrite_one _ _ _ (by rw [pairs_length]; omega)]
  apply List.ext_getElem?
  intro j
  have hl := pairs_length cs
  rw [lwrite_get _ _ _ (by simp; omega), lwrite_get _ _ _ (by simp; omega)]
  by_cases h1 : j = i * 2
  · subst h1; rw [if_neg (by simp only [List.length_cons, List.length_nil]; omega), if_pos (by simp only [List.length_cons, List.length_nil]; omega), g.1]; simp
  · by_cases h2 : j = i * 2 + 1
    · subst h2; simp
    · rw [if_neg (by simp; omega), if_neg (by simp; omega)]

theorem markP_own (σ : AHeap) (g : Nat) (cs : List (Int × Int)) (k : Int) (hg : σ g = some ⟨pairs cs, false⟩) (hl : cs.length ≤ 1048576) (hk : 0 ≤ k ∧ k ≤ 1099511627776) :
    ACall Try.prog w0 69 [.slice (some ⟨g, 0, none⟩) cs.length 2, .int .i64 k] σ fun r σ' => r = .int .i64 (k + 2 * cs.length) ∧ Kept g σ σ' ∧ σ' g = some ⟨pairs (marks cs.length k), false⟩ := by
  refine acall_go mixed Try.func69 rfl good69 fun pr => ?_
  simp -implicitDefEqProofs (disch := omega) only [List.any_cons, List.any_nil, Nat.reduceEqDiff, List.map_cons, List.map_nil, Option.map_some, Option.map_none, List.nil_append, ↓reduceIte, vcu0, vcu1, vcu2, vcu3, vcu4, vcu5, vcu6, vcu7, vcu8, vcu9, vcu10, vcu11, vcu12, vcu13, vcu14, vcu15, vcu16, vcu17, vcu18, vcu19, vcu20, vcu21, vcu22, vcu23, vcu24, vcu25, vcu26, ↓vcd0, ↓vcd1, ↓vcd2, ↓vcd3]
  refine vc_loop_c mixed (by kernel_rfl) [0] (fun m a σ' => ∃ i : Nat, m + i = cs.length ∧ a 1 = .int .i64 (k + 2 * i) ∧ a 5 = .int .i64 i ∧ Kept g σ σ' ∧ σ' g = some ⟨pairs (marks i k ++ cs.drop i), false⟩) cs.length ⟨0, by simp, by simp [fset, aenter], rfl, Kept.refl _ _, by simpa [marks] using hg⟩ ?_
  rintro m a σ' hc ⟨i, hi, h1, h5, hkp, hgk⟩
  simp -implicitDefEqProofs (disch := omega) only [List.any_cons, List.any_nil, Nat.reduceEqDiff, List.map_cons, List.map_nil, Option.map_some, Option.map_none, List.nil_append, ↓reduceIte, vcu0, vcu1, vcu2, vcu3, vcu4, vcu5, vcu6, vcu7, vcu8, vcu9, vcu10, vcu11, vcu12, vcu13, vcu14, vcu15, vcu16, vcu17, vcu18, vcu19, vcu20, vcu21, vcu22, vcu23, vcu24, vcu25, vcu26, ↓vcd0, ↓vcd1, ↓vcd2, ↓vcd3] at hc
  obtain ⟨h0, -⟩ := hc
  by_cases hlt : i < cs.length
  · have hl2 : (marks i k ++ cs.drop i).length = cs.length := by simp [marks_length]; omega
    simp -implicitDefEqProofs (disch := omega) only [List.any_cons, List.any_nil, Nat.reduceEqDiff, List.map_cons, List.map_nil, Option.map_some, Option.map_none, List.nil_append, ↓reduceIte, vcu0, vcu1, vcu2, vcu3, vcu4, vcu5, vcu6, vcu7, vcu8, vcu9, vcu10, vcu11, vcu12, vcu13, vcu14, vcu15, vcu16, vcu17, vcu18, vcu19, vcu20, vcu21, vcu22, vcu23, vcu24, vcu25, vcu26, ↓vcd0, ↓vcd1, ↓vcd2, ↓vcd3, h0, h1, h5]
    refine r_set (g := g) (i := i * 2) (by simp -implicitDefEqProofs (disch := omega) only [List.any_cons, List.any_nil, Nat.reduceEqDiff, List.map_cons, List.map_nil, Option.map_some, Option.map_none, List.nil_append, ↓reduceIte, vcu0, vcu1, vcu2, vcu3, vcu4, vcu5, vcu6, vcu7, vcu8, vcu9, vcu10, vcu11, vcu12, vcu13, vcu14, vcu15, vcu16, vcu17, vcu18, vcu19, vcu20, vcu21, vcu22, vcu23, vcu24, vcu25, vcu26, ↓vcd0, ↓vcd1, ↓vcd2, ↓vcd3, Nat.zero_add, Nat.add_zero]) (by simp -implicitDefEqProofs (disch := omega) only [List.any_cons, List.any_nil, Nat.reduceEqDiff, List.map_cons, List.map_nil, Option.map_some, Option.map_none, List.nil_append, ↓reduceIte, vcu0, vcu1, vcu2, vcu3, vcu4, vcu5, vcu6, vcu7, vcu8, vcu9, vcu10, vcu11, vcu12, vcu13, vcu14, vcu15, vcu16, vcu17, vcu18, vcu19, vcu20, vcu21, vcu22, vcu23, vcu24, vcu25, vcu26, ↓vcd0, ↓vcd1, ↓vcd2, ↓vcd3]; rfl) co3 (by simp -implicitDefEqProofs (disch := omega) only [List.any_cons, List.any_nil, Nat.reduceEqDiff, List.map_cons, List.map_nil, Option.map_some, Option.map_none, List.nil_append, ↓reduceIte, vcu0, vcu1, vcu2, vcu3, vcu4, vcu5, vcu6, vcu7, vcu8, vcu9, vcu10, vcu11, vcu12, vcu13, vcu14, vcu15, vcu16, vcu17, vcu18, vcu19, vcu20, vcu21, vcu22, vcu23, vcu24, vcu25, vcu26, ↓vcd0, ↓vcd1, ↓vcd2, ↓vcd3]; rfl) hgk (by rw [pairs_length, hl2]; omega) fun τ1 k1 e1 => ?_
    simp -implicitDefEqProofs (disch := omega) only [List.any_cons, List.any_nil, Nat.reduceEqDiff, List.map_cons, List.map_nil, Option.map_some, Option.map_none, List.nil_append, ↓reduceIte, vcu0, vcu1, vcu2, vcu3, vcu4, vcu5, vcu6, vcu7, vcu8, vcu9, vcu10, vcu11, vcu12, vcu13, vcu14, vcu15, vcu16, vcu17, vcu18, vcu19, vcu20, vcu21, vcu22, vcu23, vcu24, vcu25, vcu26, ↓vcd0, ↓vcd1, ↓vcd2, ↓vcd3] at e1
    rw [pairs_set1 _ _ (by omega), set_drop _ _ _ (marks_length i k) hlt] at e1
    simp -implicitDefEqProofs (disch := omega) only [List.any_cons, List.any_nil, Nat.reduceEqDiff, List.map_cons, List.map_nil, Option.map_some, Option.map_none, List.nil_append, ↓reduceIte, vcu0, vcu1, vcu2, vcu3, vcu4, vcu5, vcu6, vcu7, vcu8, vcu9, vcu10, vcu11, vcu12, vcu13, vcu14, vcu15, vcu16, vcu17, vcu18, vcu19, vcu20, vcu21, vcu22, vcu23, vcu24, vcu25, vcu26, ↓vcd0, ↓vcd1, ↓vcd2, ↓vcd3, h0, h1, h5]
    have hl3 : (marks i k ++ [(k + 2 * (i : Int), ((marks i k ++ cs.drop i).getD i (0, 0)).2)] ++ cs.drop (i + 1)).length = cs.length := by simp [marks_length]; omega
    refine r_set (g := g) (i := i * 2 + 1) (by simp -implicitDefEqProofs (disch := omega) only [List.any_cons, List.any_nil, Nat.reduceEqDiff, List.map_cons, List.map_nil, Option.map_some, Option.map_none, List.nil_append, ↓reduceIte, vcu0, vcu1, vcu2, vcu3, vcu4, vcu5, vcu6, vcu7, vcu8, vcu9, vcu10, vcu11, vcu12, vcu13, vcu14, vcu15, vcu16, vcu17, vcu18, vcu19, vcu20, vcu21, vcu22, vcu23, vcu24, vcu25, vcu26, ↓vcd0, ↓vcd1, ↓vcd2, ↓vcd3, Nat.zero_add]) (by simp -implicitDefEqProofs (disch := omega) only [List.any_cons, List.any_nil, Nat.reduceEqDiff, List.map_cons, List.map_nil, Option.map_some, Option.map_none, List.nil_append, ↓reduceIte, vcu0, vcu1, vcu2, vcu3, vcu4, vcu5, vcu6, vcu7, vcu8, vcu9, vcu10, vcu11, vcu12, vcu13, vcu14, vcu15, vcu16, vcu17, vcu18, vcu19, vcu20, vcu21, vcu22, vcu23, vcu24, vcu25, vcu26, ↓vcd0, ↓vcd1, ↓vcd2, ↓vcd3]; rfl) co3 (by simp -implicitDefEqProofs (disch := omega) only [List.any_cons, List.any_nil, Nat.reduceEqDiff, List.map_cons, List.map_nil, Option.map_some, Option.map_none, List.nil_append, ↓reduceIte, vcu0, vcu1, vcu2, vcu3, vcu4, vcu5, vcu6, vcu7, vcu8, vcu9, vcu10, vcu11, vcu12, vcu13, vcu14, vcu15, vcu16, vcu17, vcu18, vcu19, vcu20, vcu21, vcu22, vcu23, vcu24, vcu25, vcu26, ↓vcd0, ↓vcd1, ↓vcd2, ↓vcd3]; rfl) e1 (by rw [pairs_length, hl3]; omega) fun τ2 k2 e2 => ?_
    simp -implicitDefEqProofs (disch := omega) only [List.any_cons, List.any_nil, Nat.reduceEqDiff, List.map_cons, List.map_nil, Option.map_some, Option.map_none, List.nil_append, ↓reduceIte, vcu0, vcu1, vcu2, vcu3, vcu4, vcu5, vcu6, vcu7, vcu8, vcu9, vcu10, vcu11, vcu12, vcu13, vcu14, vcu15, vcu16, vcu17, vcu18, vcu19, vcu20, vcu21, vcu22, vcu23, vcu24, vcu25, vcu26, ↓vcd0, ↓vcd1, ↓vcd2, ↓vcd3] at e2
    have hg1 : (marks i k ++ [(k + 2 * (i : Int), ((marks i k ++ cs.drop i).getD i (0, 0)).2)] ++ cs.drop (i + 1)).getD i (0, 0) = (k + 2 * (i : Int), ((marks i k ++ cs.drop i).getD i (0, 0)).2) := by
      simp only [List.getD]
      rw [List.append_assoc, List.getElem?_append_right (by rw [marks_length]; exact Nat.le_refl _), marks_length, Nat.sub_self]
      rfl
    rw [pairs_set2 _ _ (by omega), hg1, List.append_assoc] at e2
    have hset : (marks i k ++ ([(k + 2 * (i : Int), ((marks i k ++ cs.drop i).getD i (0, 0)).2)] ++ cs.drop (i + 1))).set i (k + 2 * (i : Int), k + 2 * (i : Int) + 1) = marks (i + 1) k ++ cs.drop (i + 1) := by
      rw [List.set_append_right _ _ (by rw [marks_length]; exact Nat.le_refl _), marks_length, Nat.sub_self, marks_succ, List.append_assoc]
      rfl
    dsimp only at e2
    rw [hset] at e2
    simp -implicitDefEqProofs (disch := omega) only [List.any_cons, List.any_nil, Nat.reduceEqDiff, List.map_cons, List.map_nil, Option.map_some, Option.map_none, List.nil_append, ↓reduceIte, vcu0, vcu1, vcu2, vcu3, vcu4, vcu5, vcu6, vcu7, vcu8, vcu9, vcu10, vcu11, vcu12, vcu13, vcu14, vcu15, vcu16, vcu17, vcu18, vcu19, vcu20, vcu21, vcu22, vcu23, vcu24, vcu25, vcu26, ↓vcd0, ↓vcd1, ↓vcd2, ↓vcd3, h0, h1, h5]
    refine ⟨⟨trivial, trivial⟩, m - 1, by omega, i + 1, by omega, ?_, by simp, (hkp.trans k1).trans k2, e2⟩
    congr 1; omega
  · simp -implicitDefEqProofs (disch := omega) only [List.any_cons, List.any_nil, Nat.reduceEqDiff, List.map_cons, List.map_nil, Option.map_some, Option.map_none, List.nil_append, ↓reduceIte, vcu0, vcu1, vcu2, vcu3, vcu4, vcu5, vcu6, vcu7, vcu8, vcu9, vcu10, vcu11, vcu12, vcu13, vcu14, vcu15, vcu16, vcu17, vcu18, vcu19, vcu20, vcu21, vcu22, vcu23, vcu24, vcu25, vcu26, ↓vcd0, ↓vcd1, ↓vcd2, ↓vcd3, h0, h1, h5]
    have e : i = cs.length := by omega
    subst e
    refine fin_one Try.results69 ⟨?_, hkp, by simpa using hgk⟩
    simp -implicitDefEqProofs (disch := omega) only [List.any_cons, List.any_nil, Nat.reduceEqDiff, List.map_cons, List.map_nil, Option.map_some, Option.map_none, List.nil_append, ↓reduceIte, vcu0, vcu1, vcu2, vcu3, vcu4, vcu5, vcu6, vcu7, vcu8, vcu9, vcu10, vcu11, vcu12, vcu13, vcu14, vcu15, vcu16, vcu17, vcu18, vcu19, vcu20, vcu21, vcu22, vcu23, vcu24, vcu25, vcu26, ↓vcd0, ↓vcd1, ↓vcd2, ↓vcd3, h1]

theorem heldP_at (σ : AHeap) (g o n : Nat) (k : Int) (hv : PairsAt σ g o (marks n k)) (hl : n ≤ 1048576) (hk : 0 ≤ k ∧ k ≤ 1099511627776) :
    ACall Try.prog w0 72 [.slice (some ⟨g, o, none⟩) n 2, .int .i64 k] σ fun r σ' => r = .int .i64 (k + 2 * n) ∧ σ' = σ := by
  refine acall_go mixed Try.func72 rfl good72 fun pr => ?_
  simp -implicitDefEqProofs (disch := omega) only [List.any_cons, List.any_nil, Nat.reduceEqDiff, List.map_cons, List.map_nil, Option.map_some, Option.map_none, List.nil_append, ↓reduceIte, vcu0, vcu1, vcu2, vcu3, vcu4, vcu5, vcu6, vcu7, vcu8, vcu9, vcu10, vcu11, vcu12, vcu13, vcu14, vcu15, vcu16, vcu17, vcu18, vcu19, vcu20, vcu21, vcu22, vcu23, vcu24, vcu25, vcu26, ↓vcd0, ↓vcd1, ↓vcd2, ↓vcd3]
  refine vc_loop_c mixed (by kernel_rfl) [0] (fun m a σ' => ∃ i : Nat, m + i = n ∧ a 1 = .int .i64 (k + 2 * i) ∧ a 5 = .int .i64 i ∧ σ' = σ) n ⟨0, by simp, by simp [fset, aenter], rfl, rfl⟩ ?_
  rintro m a σ' hc ⟨i, hi, h1, h5, rfl⟩
  simp -implicitDefEqProofs (disch := omega) only [List.any_cons, List.any_nil, Nat.reduceEqDiff, List.map_cons, List.map_nil, Option.map_some, Option.map_none, List.nil_append, ↓reduceIte, vcu0, vcu1, vcu2, vcu3, vcu4, vcu5, vcu6, vcu7, vcu8, vcu9, vcu10, vcu11, vcu12, vcu13, vcu14, vcu15, vcu16, vcu17, vcu18, vcu19, vcu20, vcu21, vcu22, vcu23, vcu24, vcu25, vcu26, ↓vcd0, ↓vcd1, ↓vcd2, ↓vcd3] at hc
  obtain ⟨h0, -⟩ := hc
  by_cases hlt : i < n
  · obtain ⟨q1, q2⟩ := hv i (by rw [marks_length]; exact hlt)
    rw [marks_getD hlt] at q1 q2
    dsimp only at q1 q2
    simp -implicitDefEqProofs (disch := omega) only [List.any_cons, List.any_nil, Nat.reduceEqDiff, List.map_cons, List.map_nil, Option.map_some, Option.map_none, List.nil_append, ↓reduceIte, vcu0, vcu1, vcu2, vcu3, vcu4, vcu5, vcu6, vcu7, vcu8, vcu9, vcu10, vcu11, vcu12, vcu13, vcu14, vcu15, vcu16, vcu17, vcu18, vcu19, vcu20, vcu21, vcu22, vcu23, vcu24, vcu25, vcu26, ↓vcd0, ↓vcd1, ↓vcd2, ↓vcd3, h0, h1, h5, q1, q2, Nat.add_zero]
    refine ⟨⟨trivial, trivial⟩, m - 1, by omega, i + 1, by omega, ?_, by simp, trivial⟩
    congr 1; omega
  · simp -implicitDefEqProofs (disch := omega) only [List.any_cons, List.any_nil, Nat.reduceEqDiff, List.map_cons, List.map_nil, Option.map_some, Option.map_none, List.nil_append, ↓reduceIte, vcu0, vcu1, vcu2, vcu3, vcu4, vcu5, vcu6, vcu7, vcu8, vcu9, vcu10, vcu11, vcu12, vcu13, vcu14, vcu15, vcu16, vcu17, vcu18, vcu19, vcu20, vcu21, vcu22, vcu23, vcu24, vcu25, vcu26, ↓vcd0, ↓vcd1, ↓vcd2, ↓vcd3, h0, h1, h5]
    have e : i = n := by omega
    subst e
    refine fin_one Try.results72 ⟨?_, rfl⟩
    simp -implicitDefEqProofs (disch := omega) only [List.any_cons, List.any_nil, Nat.reduceEqDiff, List.map_cons, List.map_nil, Option.map_some, Option.map_none, List.nil_append, ↓reduceIte, vcu0, vcu1, vcu2, vcu3, vcu4, vcu5, vcu6, vcu7, vcu8, vcu9, vcu10, vcu11, vcu12, vcu13, vcu14, vcu15, vcu16, vcu17, vcu18, vcu19, vcu20, vcu21, vcu22, vcu23, vcu24, vcu25, vcu26, ↓vcd0, ↓vcd1, ↓vcd2, ↓vcd3, h1]
/-- marks, whatever the row -/
theorem markP_calls (β σ : AHeap) (v : Value) (cs : List (Int × Int)) (k : Int) (hv : OwnP β σ v cs) (hl : cs.length ≤ 1048576) (hk : 0 ≤ k ∧ k ≤ 1099511627776) :
    ACall Try.prog w0 69 [v, .int .i64 k] σ fun r σ' => r = .int .i64 (k + 2 * cs.length) ∧ OwnP β σ' v (marks cs.length k) ∧ (∀ h ob, β h = some ob → σ h = some ob → σ' h = some ob) := by
  rcases hv with ⟨rfl, rfl⟩ | ⟨g, rfl, hg, hn⟩
  · refine ACall.nil_arg (pre := []) (z := 2) (by kernel_rfl) fun g hg => ?_
    refine (markP_own _ g [] k (AHeap.upd_same _ _ _) (by simp) hk).mono ?_
    rintro r σ' ⟨rfl, h1, h2⟩
    exact ⟨rfl, .inl ⟨rfl, rfl⟩, fun h ob _ e => h1 h ob (ne_of' hg e) (sub_upd hg h ob e)⟩
  · refine (markP_own σ g cs k hg hl hk).mono ?_
    rintro r σ' ⟨rfl, h1, h2⟩
    exact ⟨rfl, .inr ⟨g, by rw [marks_length], h2, hn⟩, fun h ob hb e => h1 h ob (ne_of' hn hb) e⟩
theorem heldP_calls (σ : AHeap) (v : Value) (n : Nat) (k : Int) (hv : Pairs σ v (marks n k)) (hl : n ≤ 1048576) (hk : 0 ≤ k ∧ k ≤ 1099511627776) :
    ACall Try.prog w0 72 [v, .int .i64 k] σ fun r σ' => r = .int .i64 (k + 2 * n) ∧ σ' = σ :=
  ACall.pairs_quiet (pre := []) (by kernel_rfl) hv fun σ1 g o _ hg => by
    rw [marks_length]; exact heldP_at σ1 g o n k hg hl hk
end Go.Proofs.Ytnkpoflhdfchjaa

/- FnMatchFirst answers true for every code. -/
import Derived.Test.YtbfldpcikcdlpaaHa
set_option linter.unusedSimpArgs false
set_option linter.unusedVariables false
namespace Go.Proofs.Ytbfldpcikcdlpaa
open Go Go.Abs Go.RowKit
variable {w0 : World}

theorem Pre.valid {rows : List (List Int)} {ps : List Int} (h : Pre rows ps) (hl : ps.length = rows.length) (h6 : rows.length ≤ 6) : Valid ps := by
  refine ⟨⟨fun x hx => ?_, nodup_take.2 fun k hk => (h.ok k hk).2.2.2⟩, by omega⟩
  obtain ⟨i, hi, rfl⟩ := List.getElem_of_mem hx
  have := h.ok i hi
  rw [getD_lt hi] at this
  exact ⟨this.1, by rw [hl]; exact this.2.1⟩

theorem law6 (σ : AHeap) (v : Value) (bs : List Int) (hv : Ints .u8 σ v bs) (hm : bs.length ≤ maxLen) (hw : ∀ z ∈ bs, (Lit.int .u8 z).wf = true) :
    ACall Try.prog w0 6 [v] σ fun r _ => r = .bool true := by
  unfold maxLen at hm
  refine ACall.ints_arg (pre := []) (by kernel_rfl) hv fun σ1 h o hs hg => ?_
  clear hv hs σ v
  have hb := bytes_of hw
  refine acall_go mixed Try.func6 rfl good6 ?_
  by_cases hbig : 1048576 < bs.length
  · simp -implicitDefEqProofs (disch := omega) only [List.any_cons, List.any_nil, Nat.reduceEqDiff, List.map_cons, List.map_nil, Option.map_some, Option.map_none, List.nil_append, ↓reduceIte, vcu0, vcu1, vcu2, vcu3, vcu4, vcu5, vcu6, vcu7, vcu8, vcu9, vcu10, vcu11, vcu12, vcu13, vcu14, vcu15, vcu16, ↓vcd0, ↓vcd1, ↓vcd2, ↓vcd3]
    refine fin_one Try.results6 ?_
    simp -implicitDefEqProofs (disch := omega) only [List.any_cons, List.any_nil, Nat.reduceEqDiff, List.map_cons, List.map_nil, Option.map_some, Option.map_none, List.nil_append, ↓reduceIte, vcu0, vcu1, vcu2, vcu3, vcu4, vcu5, vcu6, vcu7, vcu8, vcu9, vcu10, vcu11, vcu12, vcu13, vcu14, vcu15, vcu16, ↓vcd0, ↓vcd1, ↓vcd2, ↓vcd3]
  have hl : bs.length ≤ 1048576 := by omega
  simp -implicitDefEqProofs (disch := omega) only [List.any_cons, List.any_nil, Nat.reduceEqDiff, List.map_cons, List.map_nil, Option.map_some, Option.map_none, List.nil_append, ↓reduceIte, vcu0, vcu1, vcu2, vcu3, vcu4, vcu5, vcu6, vcu7, vcu8, vcu9, vcu10, vcu11, vcu12, vcu13, vcu14, vcu15, vcu16, ↓vcd0, ↓vcd1, ↓vcd2, ↓vcd3]
  refine (drawMatchFirst_at σ1 h o bs hg hl hb).mono ?_
  rintro r τ ⟨g2, q, rows, rfl, hO, h7, h6, hs⟩
  simp -implicitDefEqProofs (disch := omega) only [List.any_cons, List.any_nil, Nat.reduceEqDiff, List.map_cons, List.map_nil, Option.map_some, Option.map_none, List.nil_append, ↓reduceIte, vcu0, vcu1, vcu2, vcu3, vcu4, vcu5, vcu6, vcu7, vcu8, vcu9, vcu10, vcu11, vcu12, vcu13, vcu14, vcu15, vcu16, ↓vcd0, ↓vcd1, ↓vcd2, ↓vcd3, opK_some]
  refine (implMF_at τ g2 0 rows hO.rows (by omega)).mono ?_
  rintro r τ1 ⟨v, b, ps, rfl, s1, hv, hM⟩
  simp -implicitDefEqProofs (disch := omega) only [List.any_cons, List.any_nil, Nat.reduceEqDiff, List.map_cons, List.map_nil, Option.map_some, Option.map_none, List.nil_append, ↓reduceIte, vcu0, vcu1, vcu2, vcu3, vcu4, vcu5, vcu6, vcu7, vcu8, vcu9, vcu10, vcu11, vcu12, vcu13, vcu14, vcu15, vcu16, ↓vcd0, ↓vcd1, ↓vcd2, ↓vcd3, opK_some, List.getElem?_toArray, List.getElem?_cons_zero, List.getElem?_cons_succ]
  refine (specMF_at τ1 g2 0 rows (hO.rows.sub s1) (by omega)).mono ?_
  rintro r τ2 ⟨w, c, qs, rfl, s2, hw, hM2⟩
  obtain ⟨rfl, rfl⟩ := hM.uniq hM2
  have hsm : ps.length ≤ 7 := by
    rcases hM with ⟨-, rfl, -⟩ | ⟨hT, ⟨-, rfl, -⟩ | ⟨-, hl, -⟩⟩
    · simp
    · simp
    · omega
  have hv2 : Ints .i64 τ2 v ps := hv.ints.sub s2
  have hR2 := (hO.rows.sub s1).sub s2
  simp -implicitDefEqProofs (disch := omega) only [List.any_cons, List.any_nil, Nat.reduceEqDiff, List.map_cons, List.map_nil, Option.map_some, Option.map_none, List.nil_append, ↓reduceIte, vcu0, vcu1, vcu2, vcu3, vcu4, vcu5, vcu6, vcu7, vcu8, vcu9, vcu10, vcu11, vcu12, vcu13, vcu14, vcu15, vcu16, ↓vcd0, ↓vcd1, ↓vcd2, ↓vcd3, opK_some, List.getElem?_toArray, List.getElem?_cons_zero, List.getElem?_cons_succ]
  refine (same_calls τ2 v w ps ps hv2 hw.ints (by omega) (by omega)).mono ?_
  rintro r _ ⟨rfl, rfl⟩
  rename_i τ2
  obtain ⟨vb, vz, hvv⟩ := ints_len hv2
  cases b with
  | false =>
    have hps : ps = [] := by
      rcases hM with ⟨-, h, -⟩ | ⟨hT, ⟨-, h, -⟩ | ⟨h, -, -⟩⟩
      · exact h
      · exact h
      · cases h
    have hp0 : ps.length = 0 := by rw [hps]; rfl
    rw [hp0] at hvv
    simp -implicitDefEqProofs (disch := omega) only [List.any_cons, List.any_nil, Nat.reduceEqDiff, List.map_cons, List.map_nil, Option.map_some, Option.map_none, List.nil_append, ↓reduceIte, vcu0, vcu1, vcu2, vcu3, vcu4, vcu5, vcu6, vcu7, vcu8, vcu9, vcu10, vcu11, vcu12, vcu13, vcu14, vcu15, vcu16, ↓vcd0, ↓vcd1, ↓vcd2, ↓vcd3, opK_some, eq_self, decide_true, beq_self_eq_true, Bool.not_true, hvv]
    refine (implEven_at τ2 g2 0 rows hR2 (by omega)).mono ?_
    rintro r τ3 ⟨rfl, s3⟩
    by_cases hE : EvenT rows
    · rw [decide_eq_true hE]
      simp -implicitDefEqProofs (disch := omega) only [List.any_cons, List.any_nil, Nat.reduceEqDiff, List.map_cons, List.map_nil, Option.map_some, Option.map_none, List.nil_append, ↓reduceIte, vcu0, vcu1, vcu2, vcu3, vcu4, vcu5, vcu6, vcu7, vcu8, vcu9, vcu10, vcu11, vcu12, vcu13, vcu14, vcu15, vcu16, ↓vcd0, ↓vcd1, ↓vcd2, ↓vcd3, opK_some]
      refine (implMost_at τ3 g2 0 rows (hR2.sub s3) (by omega)).mono ?_
      rintro r τ4 ⟨rfl, s4⟩
      have hm0 : mostV rows = 0 := by
        have h1 : mostV rows = most rows rows.length := if_pos hE.1
        have h2 := most_le hE.1 rows.length (Nat.le_refl _)
        rw [h1]
        apply Classical.byContradiction
        intro hne
        have hcan := even_can hE (by omega)
        rcases hM with ⟨hT, -, -⟩ | ⟨hT, ⟨-, -, h⟩ | ⟨h, -, -⟩⟩
        · exact hT hE.1
        · exact h hcan
        · cases h
      rw [hm0]
      simp -implicitDefEqProofs (disch := omega) only [List.any_cons, List.any_nil, Nat.reduceEqDiff, List.map_cons, List.map_nil, Option.map_some, Option.map_none, List.nil_append, ↓reduceIte, vcu0, vcu1, vcu2, vcu3, vcu4, vcu5, vcu6, vcu7, vcu8, vcu9, vcu10, vcu11, vcu12, vcu13, vcu14, vcu15, vcu16, ↓vcd0, ↓vcd1, ↓vcd2, ↓vcd3, opK_some, decide_true]
      refine (alive_at _).mono ?_
      rintro r _ ⟨rfl, rfl⟩
      simp -implicitDefEqProofs (disch := omega) only [List.any_cons, List.any_nil, Nat.reduceEqDiff, List.map_cons, List.map_nil, Option.map_some, Option.map_none, List.nil_append, ↓reduceIte, vcu0, vcu1, vcu2, vcu3, vcu4, vcu5, vcu6, vcu7, vcu8, vcu9, vcu10, vcu11, vcu12, vcu13, vcu14, vcu15, vcu16, ↓vcd0, ↓vcd1, ↓vcd2, ↓vcd3, opK_some]
      refine fin_one Try.results6 ?_
      simp -implicitDefEqProofs (disch := omega) only [List.any_cons, List.any_nil, Nat.reduceEqDiff, List.map_cons, List.map_nil, Option.map_some, Option.map_none, List.nil_append, ↓reduceIte, vcu0, vcu1, vcu2, vcu3, vcu4, vcu5, vcu6, vcu7, vcu8, vcu9, vcu10, vcu11, vcu12, vcu13, vcu14, vcu15, vcu16, ↓vcd0, ↓vcd1, ↓vcd2, ↓vcd3]
    · rw [decide_eq_false hE]
      simp -implicitDefEqProofs (disch := omega) only [List.any_cons, List.any_nil, Nat.reduceEqDiff, List.map_cons, List.map_nil, Option.map_some, Option.map_none, List.nil_append, ↓reduceIte, vcu0, vcu1, vcu2, vcu3, vcu4, vcu5, vcu6, vcu7, vcu8, vcu9, vcu10, vcu11, vcu12, vcu13, vcu14, vcu15, vcu16, ↓vcd0, ↓vcd1, ↓vcd2, ↓vcd3, opK_some]
      refine (alive_at _).mono ?_
      rintro r _ ⟨rfl, rfl⟩
      simp -implicitDefEqProofs (disch := omega) only [List.any_cons, List.any_nil, Nat.reduceEqDiff, List.map_cons, List.map_nil, Option.map_some, Option.map_none, List.nil_append, ↓reduceIte, vcu0, vcu1, vcu2, vcu3, vcu4, vcu5, vcu6, vcu7, vcu8, vcu9, vcu10, vcu11, vcu12, vcu13, vcu14, vcu15, vcu16, ↓vcd0, ↓vcd1, ↓vcd2, ↓vcd3, opK_some]
      refine fin_one Try.results6 ?_
      simp -implicitDefEqProofs (disch := omega) only [List.any_cons, List.any_nil, Nat.reduceEqDiff, List.map_cons, List.map_nil, Option.map_some, Option.map_none, List.nil_append, ↓reduceIte, vcu0, vcu1, vcu2, vcu3, vcu4, vcu5, vcu6, vcu7, vcu8, vcu9, vcu10, vcu11, vcu12, vcu13, vcu14, vcu15, vcu16, ↓vcd0, ↓vcd1, ↓vcd2, ↓vcd3]
  | true =>
    obtain ⟨hT, hlen, hP⟩ : TV rows ∧ ps.length = rows.length ∧ Pre rows ps := by
      rcases hM with ⟨-, -, h⟩ | ⟨hT, ⟨h, -, -⟩ | ⟨-, a, b⟩⟩
      · cases h
      · cases h
      · exact ⟨hT, a, b⟩
    have hT6 := hT.1
    simp -implicitDefEqProofs (disch := omega) only [List.any_cons, List.any_nil, Nat.reduceEqDiff, List.map_cons, List.map_nil, Option.map_some, Option.map_none, List.nil_append, ↓reduceIte, vcu0, vcu1, vcu2, vcu3, vcu4, vcu5, vcu6, vcu7, vcu8, vcu9, vcu10, vcu11, vcu12, vcu13, vcu14, vcu15, vcu16, ↓vcd0, ↓vcd1, ↓vcd2, ↓vcd3, opK_some, eq_self, decide_true, beq_self_eq_true, Bool.not_true, hvv]
    refine vc_loop_c mixed (by kernel_rfl) [3, 4] (fun m a σ' => ∃ k : Nat, m + k = ps.length ∧ a 8 = .int .i64 k ∧ σ' = τ2) ps.length ⟨0, by simp, rfl, rfl⟩ ?_
    rintro m a σ' hc ⟨k, hk, h8, rfl⟩
    simp -implicitDefEqProofs (disch := omega) only [List.any_cons, List.any_nil, Nat.reduceEqDiff, List.map_cons, List.map_nil, Option.map_some, Option.map_none, List.nil_append, ↓reduceIte, vcu0, vcu1, vcu2, vcu3, vcu4, vcu5, vcu6, vcu7, vcu8, vcu9, vcu10, vcu11, vcu12, vcu13, vcu14, vcu15, vcu16, ↓vcd0, ↓vcd1, ↓vcd2, ↓vcd3] at hc
    obtain ⟨h3, h4, -⟩ := hc
    by_cases hlt : k < ps.length
    · obtain ⟨u, hx, hiv⟩ := hR2 k (by omega)
      have hik := hP.ok k hlt
      have hrl := (hT.2 k (by omega)).1
      have hE : 0 < (rows.getD k []).getD (ps.getD k 0).toNat 0 := hik.2.2.1
      generalize rows.getD k [] = row at hiv hrl hE
      rcases hiv with ⟨rfl, rfl⟩ | ⟨e, o2, rfl, hrow⟩
      · simp at hrl; omega
      have hz := hrow (ps.getD k 0).toNat (by omega)
      rw [hrl] at hx
      rcases hv2 with ⟨-, e⟩ | ⟨g, p, e, hpp⟩
      · rw [e] at hlt; simp at hlt
      rw [e] at hvv
      injection hvv with ea eb ec
      subst ea; subst ec
      have hy := hpp k hlt
      simp -implicitDefEqProofs (disch := omega) only [List.any_cons, List.any_nil, Nat.reduceEqDiff, List.map_cons, List.map_nil, Option.map_some, Option.map_none, List.nil_append, ↓reduceIte, vcu0, vcu1, vcu2, vcu3, vcu4, vcu5, vcu6, vcu7, vcu8, vcu9, vcu10, vcu11, vcu12, vcu13, vcu14, vcu15, vcu16, ↓vcd0, ↓vcd1, ↓vcd2, ↓vcd3, h3, h4, h8, hx, hy, hz]
      refine ⟨?_, m - 1, by omega, k + 1, by omega, by simp, trivial⟩
      first | trivial | simp [h3, h4]
    · simp -implicitDefEqProofs (disch := omega) only [List.any_cons, List.any_nil, Nat.reduceEqDiff, List.map_cons, List.map_nil, Option.map_some, Option.map_none, List.nil_append, ↓reduceIte, vcu0, vcu1, vcu2, vcu3, vcu4, vcu5, vcu6, vcu7, vcu8, vcu9, vcu10, vcu11, vcu12, vcu13, vcu14, vcu15, vcu16, ↓vcd0, ↓vcd1, ↓vcd2, ↓vcd3, h3, h4, h8]
      rw [hvv] at hv2
      refine (implValid_calls _ _ ps hv2 (by omega)).mono ?_
      rintro r _ ⟨rfl, rfl⟩
      rw [decide_eq_true (hP.valid hlen hT6)]
      simp -implicitDefEqProofs (disch := omega) only [List.any_cons, List.any_nil, Nat.reduceEqDiff, List.map_cons, List.map_nil, Option.map_some, Option.map_none, List.nil_append, ↓reduceIte, vcu0, vcu1, vcu2, vcu3, vcu4, vcu5, vcu6, vcu7, vcu8, vcu9, vcu10, vcu11, vcu12, vcu13, vcu14, vcu15, vcu16, ↓vcd0, ↓vcd1, ↓vcd2, ↓vcd3, opK_some, h3, h4, hlen, decide_true]
      refine fin_one Try.results6 ?_
      simp -implicitDefEqProofs (disch := omega) only [List.any_cons, List.any_nil, Nat.reduceEqDiff, List.map_cons, List.map_nil, Option.map_some, Option.map_none, List.nil_append, ↓reduceIte, vcu0, vcu1, vcu2, vcu3, vcu4, vcu5, vcu6, vcu7, vcu8, vcu9, vcu10, vcu11, vcu12, vcu13, vcu14, vcu15, vcu16, ↓vcd0, ↓vcd1, ↓vcd2, ↓vcd3]

open Go.ChangeShapes Go.WideShapes Go.ChangeAt Go.RowKit

set_option maxRecDepth 100000 in
theorem lifted6 (os : Os) (started : os.Started) (H : Type) (enc : TypeId × Value → H) :
    ReturnsInHanded {} Try.checked os 6 .any (Rows.fnMatchFirstSpec.pre6 enc Try.prog Try.f6 Rows.fnMatchFirstRow.domain false) (Rows.fnMatchFirstSpec.post enc Try.prog Try.f6 false true false false) := by
  refine returnsInHanded_of_change (C := Try.checked) own started (by kernel_rfl) Try.func6
    (ChangeSpec.witness6 (enc := enc) (C := Try.checked) false ⟨#[], #[.slice none 0 0], []⟩ 8 (by kernel_rfl) (by kernel_rfl) (by kernel_rfl) (by kernel_rfl)) ?_
  intro W base args ds gs before hval hW _ _
  have hW' := hW
  obtain ⟨p, q, hA, hV, -, -, -⟩ := hW'
  rw [Try.params6] at hA hval
  obtain ⟨v0, vs0, d0, ds0, p0, q0, hargs, rfl, rfl, h0, r0⟩ := trodAll_cons hA
  obtain ⟨rfl, rfl, rfl⟩ := trodAll_nil r0
  obtain ⟨rfl, rfl⟩ := trodVars_none hV
  obtain rfl : args = #[v0] := by cases args; simp_all
  obtain ⟨β0, σ0, a0, zs0, L0, U0, S0, R0, I0, w0, m0⟩ := start_ints Try.underlying22 Try.underlying5 co5 (Start.start W) (hval 0 22 v0 rfl rfl) h0
  refine ((law6 σ0 a0 zs0 (I0) m0 w0).2 β0 W [v0] S0.rel (.cons R0 (.nil _))).mono fun e W' h => ?_
  obtain ⟨β', r, r', σ', -, rfl, hr, hrel, rfl⟩ := h
  cases hr
  exact ⟨_, rfl, law_post laidOut hW rfl rfl (by rw [Try.params6]; intro t ht; simp only [List.mem_cons, List.not_mem_nil, or_false, or_self] at ht; rcases ht with rfl <;> exact ⟨by kernel_rfl, of_decide_eq_true (by kernel_rfl)⟩) rfl Try.underlying4 hrel.below⟩

theorem facts6 : joinedFacts Try.prog 6 Try.f6 Rows.fnMatchFirstSpec Rows.fnMatchFirstRow = true := by
  unfold joinedFacts
  rw [mayE, liftsE, makeE]
  kernel_rfl

theorem proved6 : Rows.FnMatchFirstSaid :=
  OpenClaim.holds_of_wide 6 Try.f6 rfl rfl rfl rfl rfl rfl rfl ⟨rfl, rfl, rfl, rfl, rfl⟩ rfl rfl rfl rfl rfl (by kernel_rfl) Try.func6 facts6 (of_decide_eq_true (by kernel_rfl))
    (by unfold Func.isWrapper; first | (rw [if_pos (by decide +kernel)]; kernel_rfl) | (rw [if_neg (by decide +kernel)]; exact ⟨rfl, rfl⟩))
    (fun os started H enc _ => lifted6 os started H enc)


end Go.Proofs.Ytbfldpcikcdlpaa

/- FnLineMost answers true for every code. -/
import Derived.Test.YtbfldpcikcdlpaaRe
set_option linter.unusedSimpArgs false
set_option linter.unusedVariables false
namespace Go.Proofs.Ytbfldpcikcdlpaa
open Go Go.Abs Go.RowKit
variable {w0 : World}

theorem sumOf_calls (σ : AHeap) (v : Value) (xs : List Int) (hv : Ints .i64 σ v xs) (hl : xs.length ≤ 6) (hx : ∀ j, j < xs.length → 0 ≤ xs.getD j 0 ∧ xs.getD j 0 ≤ 6) :
    ACall Try.prog w0 22 [v] σ fun r σ' => r = .int .i64 (psum xs xs.length) ∧ σ' = σ := by
  refine ACall.ints_quiet (pre := []) (post := []) (by kernel_rfl) hv fun σ1 h o _ hg => ?_
  refine acall_go mixed Try.func22 rfl good22 ?_
  simp -implicitDefEqProofs (disch := omega) only [List.any_cons, List.any_nil, Nat.reduceEqDiff, List.map_cons, List.map_nil, Option.map_some, Option.map_none, List.nil_append, ↓reduceIte, vcu0, vcu1, vcu2, vcu3, vcu4, vcu5, vcu6, vcu7, vcu8, vcu9, vcu10, vcu11, vcu12, vcu13, vcu14, vcu15, vcu16, ↓vcd0, ↓vcd1, ↓vcd2, ↓vcd3]
  refine vc_loop_c mixed (by kernel_rfl) [0] (fun m a σ' => ∃ k : Nat, m + k = xs.length ∧ a 4 = .int .i64 k ∧ a 3 = .int .i64 (psum xs k) ∧ σ' = σ1) xs.length ⟨0, by simp, rfl, rfl, rfl⟩ ?_
  rintro m a σ' hc ⟨k, hk, h4, h3, rfl⟩
  simp -implicitDefEqProofs (disch := omega) only [List.any_cons, List.any_nil, Nat.reduceEqDiff, List.map_cons, List.map_nil, Option.map_some, Option.map_none, List.nil_append, ↓reduceIte, vcu0, vcu1, vcu2, vcu3, vcu4, vcu5, vcu6, vcu7, vcu8, vcu9, vcu10, vcu11, vcu12, vcu13, vcu14, vcu15, vcu16, ↓vcd0, ↓vcd1, ↓vcd2, ↓vcd3] at hc
  obtain ⟨h0, -⟩ := hc
  have hb := psum_le hx k (by omega)
  by_cases hlt : k < xs.length
  · have hy := hg k hlt
    have hbx := hx k hlt
    simp -implicitDefEqProofs (disch := omega) only [List.any_cons, List.any_nil, Nat.reduceEqDiff, List.map_cons, List.map_nil, Option.map_some, Option.map_none, List.nil_append, ↓reduceIte, vcu0, vcu1, vcu2, vcu3, vcu4, vcu5, vcu6, vcu7, vcu8, vcu9, vcu10, vcu11, vcu12, vcu13, vcu14, vcu15, vcu16, ↓vcd0, ↓vcd1, ↓vcd2, ↓vcd3, h0, h3, h4, hy]
    exact ⟨⟨trivial, trivial⟩, m - 1, by omega, k + 1, by omega, by simp, rfl, trivial⟩
  · simp -implicitDefEqProofs (disch := omega) only [List.any_cons, List.any_nil, Nat.reduceEqDiff, List.map_cons, List.map_nil, Option.map_some, Option.map_none, List.nil_append, ↓reduceIte, vcu0, vcu1, vcu2, vcu3, vcu4, vcu5, vcu6, vcu7, vcu8, vcu9, vcu10, vcu11, vcu12, vcu13, vcu14, vcu15, vcu16, ↓vcd0, ↓vcd1, ↓vcd2, ↓vcd3, h0, h3, h4]
    have e : k = xs.length := by omega
    refine fin_one Try.results22 ⟨?_, rfl⟩
    simp -implicitDefEqProofs (disch := omega) only [List.any_cons, List.any_nil, Nat.reduceEqDiff, List.map_cons, List.map_nil, Option.map_some, Option.map_none, List.nil_append, ↓reduceIte, vcu0, vcu1, vcu2, vcu3, vcu4, vcu5, vcu6, vcu7, vcu8, vcu9, vcu10, vcu11, vcu12, vcu13, vcu14, vcu15, vcu16, ↓vcd0, ↓vcd1, ↓vcd2, ↓vcd3, h3]
    rw [e]

def someF (rows : List (List Int)) (x : Int) : Nat → Bool
  | 0 => decide (x = 0)
  | k + 1 => (someF rows x k || decide (psum (rows.getD k []) rows.length = x)) || decide (csum rows k rows.length = x)
theorem someF_end (rows : List (List Int)) (x : Int) : ∀ k, most rows k = x → someF rows x k = true
  | 0, h => by simp only [most] at h; simp [someF, h]
  | k + 1, h => by
    simp only [most] at h
    simp only [someF, Bool.or_eq_true, decide_eq_true_eq]
    by_cases h1 : most rows k = x
    · exact .inl (.inl (someF_end rows x k h1))
    · by_cases h2 : psum (rows.getD k []) rows.length = x
      · exact .inl (.inr h2)
      · exact .inr (by omega)

theorem law4 (σ : AHeap) (v : Value) (bs : List Int) (hv : Ints .u8 σ v bs) (hm : bs.length ≤ maxLen) (hw : ∀ z ∈ bs, (Lit.int .u8 z).wf = true) :
    ACall Try.prog w0 4 [v] σ fun r _ => r = .bool true := by
  unfold maxLen at hm
  refine ACall.ints_arg (pre := []) (by kernel_rfl) hv fun σ1 h o hs hg => ?_
  clear hv hs σ v
  have hb := bytes_of hw
  refine acall_go mixed Try.func4 rfl good4 ?_
  by_cases hbig : 1048576 < bs.length
  · simp -implicitDefEqProofs (disch := omega) only [List.any_cons, List.any_nil, Nat.reduceEqDiff, List.map_cons, List.map_nil, Option.map_some, Option.map_none, List.nil_append, ↓reduceIte, vcu0, vcu1, vcu2, vcu3, vcu4, vcu5, vcu6, vcu7, vcu8, vcu9, vcu10, vcu11, vcu12, vcu13, vcu14, vcu15, vcu16, ↓vcd0, ↓vcd1, ↓vcd2, ↓vcd3]
    refine fin_one Try.results4 ?_
    simp -implicitDefEqProofs (disch := omega) only [List.any_cons, List.any_nil, Nat.reduceEqDiff, List.map_cons, List.map_nil, Option.map_some, Option.map_none, List.nil_append, ↓reduceIte, vcu0, vcu1, vcu2, vcu3, vcu4, vcu5, vcu6, vcu7, vcu8, vcu9, vcu10, vcu11, vcu12, vcu13, vcu14, vcu15, vcu16, ↓vcd0, ↓vcd1, ↓vcd2, ↓vcd3]
  have hl : bs.length ≤ 1048576 := by omega
  simp -implicitDefEqProofs (disch := omega) only [List.any_cons, List.any_nil, Nat.reduceEqDiff, List.map_cons, List.map_nil, Option.map_some, Option.map_none, List.nil_append, ↓reduceIte, vcu0, vcu1, vcu2, vcu3, vcu4, vcu5, vcu6, vcu7, vcu8, vcu9, vcu10, vcu11, vcu12, vcu13, vcu14, vcu15, vcu16, ↓vcd0, ↓vcd1, ↓vcd2, ↓vcd3]
  refine (drawLineMost_at σ1 h o bs hg hl hb).mono ?_
  rintro r τ ⟨g2, q, rows, rfl, hO, h7, h6, hs⟩
  simp -implicitDefEqProofs (disch := omega) only [List.any_cons, List.any_nil, Nat.reduceEqDiff, List.map_cons, List.map_nil, Option.map_some, Option.map_none, List.nil_append, ↓reduceIte, vcu0, vcu1, vcu2, vcu3, vcu4, vcu5, vcu6, vcu7, vcu8, vcu9, vcu10, vcu11, vcu12, vcu13, vcu14, vcu15, vcu16, ↓vcd0, ↓vcd1, ↓vcd2, ↓vcd3, opK_some]
  refine (implMost_at τ g2 0 rows hO.rows (by omega)).mono ?_
  rintro r τ1 ⟨rfl, s1⟩
  simp -implicitDefEqProofs (disch := omega) only [List.any_cons, List.any_nil, Nat.reduceEqDiff, List.map_cons, List.map_nil, Option.map_some, Option.map_none, List.nil_append, ↓reduceIte, vcu0, vcu1, vcu2, vcu3, vcu4, vcu5, vcu6, vcu7, vcu8, vcu9, vcu10, vcu11, vcu12, vcu13, vcu14, vcu15, vcu16, ↓vcd0, ↓vcd1, ↓vcd2, ↓vcd3, opK_some]
  refine (specMost_at τ1 g2 0 rows (hO.rows.sub s1) (by omega)).mono ?_
  rintro r _ ⟨rfl, rfl⟩
  rename_i τ1
  have hR := hO.rows.sub s1
  by_cases hT : TV rows
  · have hmv : mostV rows = most rows rows.length := if_pos hT
    have hm0 := most_le hT rows.length (Nat.le_refl _)
    rw [hmv]
    obtain ⟨x, hx⟩ : ∃ x, most rows rows.length = x := ⟨_, rfl⟩
    rw [hx] at hm0
    rw [hx]
    simp -implicitDefEqProofs (disch := omega) only [List.any_cons, List.any_nil, Nat.reduceEqDiff, List.map_cons, List.map_nil, Option.map_some, Option.map_none, List.nil_append, ↓reduceIte, vcu0, vcu1, vcu2, vcu3, vcu4, vcu5, vcu6, vcu7, vcu8, vcu9, vcu10, vcu11, vcu12, vcu13, vcu14, vcu15, vcu16, ↓vcd0, ↓vcd1, ↓vcd2, ↓vcd3, opK_some, ne_eq, not_true_eq_false, decide_false]
    have hn6 := hT.1
    obtain ⟨n, hn⟩ : ∃ n, rows.length = n := ⟨_, rfl⟩
    refine vc_loop_c mixed (by kernel_rfl) [3, 4] (fun m a σ' => ∃ k : Nat, m + k = n ∧ a 6 = .int .i64 k ∧ a 5 = .bool (someF rows x k) ∧ σ' = τ1) n ⟨0, by simp, rfl, rfl, rfl⟩ ?_
    rintro m a σ' hc ⟨k, hk, h6', h5, rfl⟩
    simp -implicitDefEqProofs (disch := omega) only [List.any_cons, List.any_nil, Nat.reduceEqDiff, List.map_cons, List.map_nil, Option.map_some, Option.map_none, List.nil_append, ↓reduceIte, vcu0, vcu1, vcu2, vcu3, vcu4, vcu5, vcu6, vcu7, vcu8, vcu9, vcu10, vcu11, vcu12, vcu13, vcu14, vcu15, vcu16, ↓vcd0, ↓vcd1, ↓vcd2, ↓vcd3, hn] at hc
    obtain ⟨h3, h4, -⟩ := hc
    by_cases hlt : k < n
    · simp -implicitDefEqProofs (disch := omega) only [List.any_cons, List.any_nil, Nat.reduceEqDiff, List.map_cons, List.map_nil, Option.map_some, Option.map_none, List.nil_append, ↓reduceIte, vcu0, vcu1, vcu2, vcu3, vcu4, vcu5, vcu6, vcu7, vcu8, vcu9, vcu10, vcu11, vcu12, vcu13, vcu14, vcu15, vcu16, ↓vcd0, ↓vcd1, ↓vcd2, ↓vcd3, h3, h4, h5, h6']
      refine vc_loop_c mixed (by kernel_rfl) [3, 4, 5, 6] (fun m2 a2 σ2 => ∃ j : Nat, m2 + j = n ∧ a2 8 = .int .i64 j ∧ a2 7 = .int .i64 (csum rows k j) ∧ σ2 = σ') n ⟨0, by simp, rfl, rfl, rfl⟩ ?_
      rintro m2 a2 σ2 hc2 ⟨j, hj, h8, h7', rfl⟩
      simp -implicitDefEqProofs (disch := omega) only [List.any_cons, List.any_nil, Nat.reduceEqDiff, List.map_cons, List.map_nil, Option.map_some, Option.map_none, List.nil_append, ↓reduceIte, vcu0, vcu1, vcu2, vcu3, vcu4, vcu5, vcu6, vcu7, vcu8, vcu9, vcu10, vcu11, vcu12, vcu13, vcu14, vcu15, vcu16, ↓vcd0, ↓vcd1, ↓vcd2, ↓vcd3, h3, h4, h5, h6'] at hc2
      obtain ⟨c3, c4, c5, c6, -⟩ := hc2
      have hcb := csum_le hT (c := k) (by omega) j (by omega)
      by_cases hjl : j < n
      · obtain ⟨v, hxv, hi⟩ := hR j (by omega)
        have hat := hT.at (i := j) (j := k) (by omega) (by omega)
        have hrl := (hT.2 j (by omega)).1
        have hcs : csum rows k (j + 1) = csum rows k j + (rows.getD j []).getD k 0 := rfl
        generalize rows.getD j [] = row at hi hat hrl hcs
        rcases hi with ⟨rfl, rfl⟩ | ⟨g, p, rfl, hgr⟩
        · simp at hrl; omega
        have hy := hgr k (by omega)
        simp -implicitDefEqProofs (disch := omega) only [List.any_cons, List.any_nil, Nat.reduceEqDiff, List.map_cons, List.map_nil, Option.map_some, Option.map_none, List.nil_append, ↓reduceIte, vcu0, vcu1, vcu2, vcu3, vcu4, vcu5, vcu6, vcu7, vcu8, vcu9, vcu10, vcu11, vcu12, vcu13, vcu14, vcu15, vcu16, ↓vcd0, ↓vcd1, ↓vcd2, ↓vcd3, c3, c4, c5, c6, h8, h7', hxv, hy]
        refine ⟨?_, m2 - 1, by omega, j + 1, by omega, by simp, by rw [hcs], trivial⟩
        first | trivial | simp [c3, c4, c5, c6, h3, h4, h5, h6']
      · have e : j = n := by omega
        subst e
        obtain ⟨v, hxv, hi⟩ := hR k (by omega)
        have hr := hT.2 k (by omega)
        have hle := le_most (rows := rows) (i := k) (k := rows.length) (by omega)
        rw [hx] at hle
        simp -implicitDefEqProofs (disch := omega) only [List.any_cons, List.any_nil, Nat.reduceEqDiff, List.map_cons, List.map_nil, Option.map_some, Option.map_none, List.nil_append, ↓reduceIte, vcu0, vcu1, vcu2, vcu3, vcu4, vcu5, vcu6, vcu7, vcu8, vcu9, vcu10, vcu11, vcu12, vcu13, vcu14, vcu15, vcu16, ↓vcd0, ↓vcd1, ↓vcd2, ↓vcd3, c3, c4, c5, c6, h8, h7', hxv]
        refine (sumOf_calls σ2 v _ hi (by rw [hr.1]; omega) hr.2).mono ?_
        rintro r _ ⟨rfl, rfl⟩
        rename_i σ2
        have hrn : (rows.getD k []).length = j := by rw [hr.1, hn]
        rw [hrn]
        rw [hn] at hle
        have hsf : someF rows x (k + 1) = ((someF rows x k || decide (psum (rows.getD k []) j = x)) || decide (csum rows k j = x)) := by rw [someF, hn]
        obtain ⟨P, hP⟩ : ∃ P, psum (rows.getD k []) j = P := ⟨_, rfl⟩
        obtain ⟨C, hC⟩ : ∃ C, csum rows k j = C := ⟨_, rfl⟩
        rw [hP, hC] at hsf hle
        rw [hP]
        rw [hC] at h7'
        obtain ⟨b, hbb⟩ : ∃ b, someF rows x k = b := ⟨_, rfl⟩
        rw [hbb] at hsf c5
        cases b with
        | true =>
          simp -implicitDefEqProofs (disch := omega) only [List.any_cons, List.any_nil, Nat.reduceEqDiff, List.map_cons, List.map_nil, Option.map_some, Option.map_none, List.nil_append, ↓reduceIte, vcu0, vcu1, vcu2, vcu3, vcu4, vcu5, vcu6, vcu7, vcu8, vcu9, vcu10, vcu11, vcu12, vcu13, vcu14, vcu15, vcu16, ↓vcd0, ↓vcd1, ↓vcd2, ↓vcd3, opK_some, c3, c4, c5, c6, h7']
          refine ⟨?_, m - 1, by omega, k + 1, by omega, by simp, by rw [hsf]; rfl, trivial⟩
          first | trivial | simp [c3, c4, h3, h4, hn]
        | false =>
          simp -implicitDefEqProofs (disch := omega) only [List.any_cons, List.any_nil, Nat.reduceEqDiff, List.map_cons, List.map_nil, Option.map_some, Option.map_none, List.nil_append, ↓reduceIte, vcu0, vcu1, vcu2, vcu3, vcu4, vcu5, vcu6, vcu7, vcu8, vcu9, vcu10, vcu11, vcu12, vcu13, vcu14, vcu15, vcu16, ↓vcd0, ↓vcd1, ↓vcd2, ↓vcd3, opK_some, c3, c4, c5, c6, h7', hxv]
          refine (sumOf_calls σ2 v _ hi (by rw [hr.1]; omega) hr.2).mono ?_
          rintro r _ ⟨rfl, rfl⟩
          rw [hrn, hP]
          by_cases hp : P = x
          · simp -implicitDefEqProofs (disch := omega) only [List.any_cons, List.any_nil, Nat.reduceEqDiff, List.map_cons, List.map_nil, Option.map_some, Option.map_none, List.nil_append, ↓reduceIte, vcu0, vcu1, vcu2, vcu3, vcu4, vcu5, vcu6, vcu7, vcu8, vcu9, vcu10, vcu11, vcu12, vcu13, vcu14, vcu15, vcu16, ↓vcd0, ↓vcd1, ↓vcd2, ↓vcd3, opK_some, c3, c4, c5, c6, h7', hp, decide_true]
            refine ⟨?_, m - 1, by omega, k + 1, by omega, by simp, by rw [hsf, decide_eq_true hp]; rfl, trivial⟩
            first | trivial | simp [c3, c4, h3, h4, hn]
          · simp -implicitDefEqProofs (disch := omega) only [List.any_cons, List.any_nil, Nat.reduceEqDiff, List.map_cons, List.map_nil, Option.map_some, Option.map_none, List.nil_append, ↓reduceIte, vcu0, vcu1, vcu2, vcu3, vcu4, vcu5, vcu6, vcu7, vcu8, vcu9, vcu10, vcu11, vcu12, vcu13, vcu14, vcu15, vcu16, ↓vcd0, ↓vcd1, ↓vcd2, ↓vcd3, opK_some, c3, c4, c5, c6, h7', hp, decide_false]
            refine ⟨?_, m - 1, by omega, k + 1, by omega, by simp, by rw [hsf, decide_eq_false hp]; rfl, trivial⟩
            first | trivial | simp [c3, c4, h3, h4, hn]
    · have e : k = n := by omega
      subst e
      simp -implicitDefEqProofs (disch := omega) only [List.any_cons, List.any_nil, Nat.reduceEqDiff, List.map_cons, List.map_nil, Option.map_some, Option.map_none, List.nil_append, ↓reduceIte, vcu0, vcu1, vcu2, vcu3, vcu4, vcu5, vcu6, vcu7, vcu8, vcu9, vcu10, vcu11, vcu12, vcu13, vcu14, vcu15, vcu16, ↓vcd0, ↓vcd1, ↓vcd2, ↓vcd3, h3, h4, h5, h6']
      refine fin_one Try.results4 ?_
      simp -implicitDefEqProofs (disch := omega) only [List.any_cons, List.any_nil, Nat.reduceEqDiff, List.map_cons, List.map_nil, Option.map_some, Option.map_none, List.nil_append, ↓reduceIte, vcu0, vcu1, vcu2, vcu3, vcu4, vcu5, vcu6, vcu7, vcu8, vcu9, vcu10, vcu11, vcu12, vcu13, vcu14, vcu15, vcu16, ↓vcd0, ↓vcd1, ↓vcd2, ↓vcd3, h5]
      rw [someF_end rows x k (by rw [← hn]; exact hx)]
  · have hmv : mostV rows = -1 := if_neg hT
    rw [hmv]
    simp -implicitDefEqProofs (disch := omega) only [List.any_cons, List.any_nil, Nat.reduceEqDiff, List.map_cons, List.map_nil, Option.map_some, Option.map_none, List.nil_append, ↓reduceIte, vcu0, vcu1, vcu2, vcu3, vcu4, vcu5, vcu6, vcu7, vcu8, vcu9, vcu10, vcu11, vcu12, vcu13, vcu14, vcu15, vcu16, ↓vcd0, ↓vcd1, ↓vcd2, ↓vcd3, opK_some, ne_eq, not_true_eq_false, decide_false, decide_true]
    refine (alive_at _).mono ?_
    rintro r _ ⟨rfl, rfl⟩
    simp -implicitDefEqProofs (disch := omega) only [List.any_cons, List.any_nil, Nat.reduceEqDiff, List.map_cons, List.map_nil, Option.map_some, Option.map_none, List.nil_append, ↓reduceIte, vcu0, vcu1, vcu2, vcu3, vcu4, vcu5, vcu6, vcu7, vcu8, vcu9, vcu10, vcu11, vcu12, vcu13, vcu14, vcu15, vcu16, ↓vcd0, ↓vcd1, ↓vcd2, ↓vcd3, opK_some]
    refine fin_one Try.results4 ?_
    simp -implicitDefEqProofs (disch := omega) only [List.any_cons, List.any_nil, Nat.reduceEqDiff, List.map_cons, List.map_nil, Option.map_some, Option.map_none, List.nil_append, ↓reduceIte, vcu0, vcu1, vcu2, vcu3, vcu4, vcu5, vcu6, vcu7, vcu8, vcu9, vcu10, vcu11, vcu12, vcu13, vcu14, vcu15, vcu16, ↓vcd0, ↓vcd1, ↓vcd2, ↓vcd3]

open Go.ChangeShapes Go.WideShapes Go.ChangeAt Go.RowKit

set_option maxRecDepth 100000 in
theorem lifted4 (os : Os) (started : os.Started) (H : Type) (enc : TypeId × Value → H) :
    ReturnsInHanded {} Try.checked os 4 .any (Rows.fnLineMostSpec.pre6 enc Try.prog Try.f4 Rows.fnLineMostRow.domain false) (Rows.fnLineMostSpec.post enc Try.prog Try.f4 false true false false) := by
  refine returnsInHanded_of_change (C := Try.checked) own started (by kernel_rfl) Try.func4
    (ChangeSpec.witness6 (enc := enc) (C := Try.checked) false ⟨#[], #[.slice none 0 0], []⟩ 8 (by kernel_rfl) (by kernel_rfl) (by kernel_rfl) (by kernel_rfl)) ?_
  intro W base args ds gs before hval hW _ _
  have hW' := hW
  obtain ⟨p, q, hA, hV, -, -, -⟩ := hW'
  rw [Try.params4] at hA hval
  obtain ⟨v0, vs0, d0, ds0, p0, q0, hargs, rfl, rfl, h0, r0⟩ := trodAll_cons hA
  obtain ⟨rfl, rfl, rfl⟩ := trodAll_nil r0
  obtain ⟨rfl, rfl⟩ := trodVars_none hV
  obtain rfl : args = #[v0] := by cases args; simp_all
  obtain ⟨β0, σ0, a0, zs0, L0, U0, S0, R0, I0, w0, m0⟩ := start_ints Try.underlying22 Try.underlying5 co5 (Start.start W) (hval 0 22 v0 rfl rfl) h0
  refine ((law4 σ0 a0 zs0 (I0) m0 w0).2 β0 W [v0] S0.rel (.cons R0 (.nil _))).mono fun e W' h => ?_
  obtain ⟨β', r, r', σ', -, rfl, hr, hrel, rfl⟩ := h
  cases hr
  exact ⟨_, rfl, law_post laidOut hW rfl rfl (by rw [Try.params4]; intro t ht; simp only [List.mem_cons, List.not_mem_nil, or_false, or_self] at ht; rcases ht with rfl <;> exact ⟨by kernel_rfl, of_decide_eq_true (by kernel_rfl)⟩) rfl Try.underlying4 hrel.below⟩

theorem facts4 : joinedFacts Try.prog 4 Try.f4 Rows.fnLineMostSpec Rows.fnLineMostRow = true := by
  unfold joinedFacts
  rw [mayE, liftsE, makeE]
  kernel_rfl

theorem proved4 : Rows.FnLineMostSaid :=
  OpenClaim.holds_of_wide 4 Try.f4 rfl rfl rfl rfl rfl rfl rfl ⟨rfl, rfl, rfl, rfl, rfl⟩ rfl rfl rfl rfl rfl (by kernel_rfl) Try.func4 facts4 (of_decide_eq_true (by kernel_rfl))
    (by unfold Func.isWrapper; first | (rw [if_pos (by decide +kernel)]; kernel_rfl) | (rw [if_neg (by decide +kernel)]; exact ⟨rfl, rfl⟩))
    (fun os started H enc _ => lifted4 os started H enc)


end Go.Proofs.Ytbfldpcikcdlpaa

/- Copies of tables; tables at the start. -/
import Derived.Test.YtbfldpcikcdlpaaTb
set_option linter.unusedSimpArgs false
set_option linter.unusedVariables false
namespace Go.Proofs.Ytbfldpcikcdlpaa
open Go Go.Abs Go.RowKit
variable {w0 : World}

/-- nil, or rows at a handle -/
def RowsV (σ : AHeap) (v : Value) (rows : List (List Int)) : Prop := (v = .slice none 0 0 ∧ rows = []) ∨ ∃ h o, v = .slice (some ⟨h, o, none⟩) rows.length 1 ∧ RowsAt σ h o rows
theorem RowsV.sub {σ τ : AHeap} {v : Value} {rows : List (List Int)} (hv : RowsV σ v rows) (hs : Sub σ τ) : RowsV τ v rows := hv.imp id fun ⟨h, o, e, hh⟩ => ⟨h, o, e, hh.sub hs⟩
theorem layL_rows {σ : AHeap} : ∀ {ds : List Dat} {cs : List Value}, LayL σ (.slc (.int .i64)) ds cs → ∃ zs : List (List Int), ds.length = zs.length ∧ (∀ i, i < zs.length → ∃ v, cs[i]? = some v ∧ Ints .i64 σ v (zs.getD i [])) ∧ (∀ row ∈ zs, row.length ≤ maxLen ∧ ∀ z ∈ row, (Lit.int .i64 z).wf = true)
  | _, _, .nil => ⟨[], rfl, by simp, by simp⟩
  | _, _, .cons (cs := cs) h hh => by
    have hl := Lay.len h
    obtain ⟨v, rfl⟩ : ∃ v, cs = [v] := List.length_eq_one_iff.1 hl
    obtain ⟨z, h1, h2, h3⟩ := lay_ints h
    obtain ⟨zs, e1, e2, e3⟩ := layL_rows hh
    refine ⟨z :: zs, by simp [e1], fun i hi => ?_, fun row hr => ?_⟩
    · cases i with
      | zero => exact ⟨v, rfl, h1⟩
      | succ i => exact e2 i (by simpa using hi)
    · rcases List.mem_cons.1 hr with rfl | hr
      · exact ⟨h3, h2⟩
      · exact e3 row hr
theorem lay_rows {σ : AHeap} {d : Dat} {v : Value} (h : Lay σ (.slc (.slc (.int .i64))) d [v]) : ∃ zs : List (List Int), RowsV σ v zs ∧ (∀ row ∈ zs, row.length ≤ maxLen ∧ ∀ z ∈ row, (Lit.int .i64 z).wf = true) ∧ zs.length ≤ maxLen := by
  generalize hc : [v] = c at h
  cases h with
  | nil => cases hc; exact ⟨[], .inl ⟨rfl, rfl⟩, fun _ h => (by cases h), by simp⟩
  | slc hl hr hh =>
    cases hc
    obtain ⟨zs, h1, h2, h3⟩ := layL_rows hh
    obtain ⟨ro, hr⟩ := hr
    refine ⟨zs, .inr ⟨_, 0, by rw [h1]; rfl, fun i hi => ?_⟩, h3, by omega⟩
    obtain ⟨u, a, b⟩ := h2 i hi
    exact ⟨u, by unfold ld; rw [hr]; simpa using a, b⟩
theorem ACall.rows_arg {f : FuncId} {pre post : List Value} {σ : AHeap} {v : Value} {rows : List (List Int)} {R : Value → AHeap → Prop} (hc : callable Try.prog f = true) (hv : RowsV σ v rows)
    (h : ∀ σ1 g o, Sub σ σ1 → RowsAt σ1 g o rows → ACall Try.prog w0 f (pre ++ .slice (some ⟨g, o, none⟩) rows.length 1 :: post) σ1 R) : ACall Try.prog w0 f (pre ++ v :: post) σ R := by
  rcases hv with ⟨rfl, rfl⟩ | ⟨g, o, rfl, hg⟩
  · exact ACall.nil_arg hc fun g hg => h _ g 0 (sub_upd hg) (fun i hi => absurd hi (by simp))
  · exact h σ g o (Sub.refl _) hg

theorem azeros_nil (l : Nat) : azeros (.slice none 0 0) (l * 1) = List.replicate l (.slice none 0 0) := by
  rw [Nat.mul_one, azeros_one _ rfl]
theorem toInts_calls (σ : AHeap) (v : Value) (xs : List Int) (hv : Ints .i64 σ v xs) (hl : xs.length ≤ 1048576) :
    ACall Try.prog w0 64 [v] σ fun r σ' => ∃ g, σ g = none ∧ r = .slice (some ⟨g, 0, none⟩) xs.length 1 ∧ Sub σ σ' ∧ σ' g = some ⟨ints .i64 xs, false⟩ := by
  refine ACall.ints_arg (pre := []) (post := []) (by kernel_rfl) hv fun σ1 g1 o1 hs1 hg1 => ?_
  refine (toInts_at σ1 g1 o1 xs hg1 hl).mono ?_
  rintro r τ1 ⟨q, a1, a2, a3, a4⟩
  exact ⟨q, free_sub hs1 a1, a2, hs1.trans a3, a4⟩
theorem set_new {vs : List Value} {n k : Nat} (hk : vs.length = k) (hn : k < n) (z v : Value) : (vs ++ List.replicate (n - k) z).set k v = (vs ++ [v]) ++ List.replicate (n - (k + 1)) z := by
  obtain ⟨m, hm⟩ : ∃ m, n - k = m + 1 := ⟨n - k - 1, by omega⟩
  have e : n - (k + 1) = m := by omega
  rw [hm, e, List.set_append_right _ _ (by omega), hk, Nat.sub_self, List.replicate_succ, List.set_cons_zero, List.append_assoc]; rfl

theorem toRows_at (σ : AHeap) (h o : Nat) (rows : List (List Int)) (hv : RowsAt σ h o rows) (hl : rows.length ≤ 1048576) (hr : ∀ i, i < rows.length → (rows.getD i []).length ≤ 1048576) :
    ACall Try.prog w0 39 [.slice (some ⟨h, o, none⟩) rows.length 1] σ fun r σ' => ∃ g, σ g = none ∧ r = .slice (some ⟨g, 0, none⟩) rows.length 1 ∧ Sub σ σ' ∧ RowsAt σ' g 0 rows := by
  refine acall_go mixed Try.func39 rfl good39 ?_
  simp -implicitDefEqProofs (disch := omega) only [List.any_cons, List.any_nil, Nat.reduceEqDiff, List.map_cons, List.map_nil, Option.map_some, Option.map_none, List.nil_append, ↓reduceIte, vcu0, vcu1, vcu2, vcu3, vcu4, vcu5, vcu6, vcu7, vcu8, vcu9, vcu10, vcu11, vcu12, vcu13, vcu14, vcu15, vcu16, ↓vcd0, ↓vcd1, ↓vcd2, ↓vcd3]
  refine r_make (kx := .i64) (ky := .i64) (l := rows.length) (c := rows.length) el23 (by simp -implicitDefEqProofs (disch := omega) only [List.any_cons, List.any_nil, Nat.reduceEqDiff, List.map_cons, List.map_nil, Option.map_some, Option.map_none, List.nil_append, ↓reduceIte, vcu0, vcu1, vcu2, vcu3, vcu4, vcu5, vcu6, vcu7, vcu8, vcu9, vcu10, vcu11, vcu12, vcu13, vcu14, vcu15, vcu16, ↓vcd0, ↓vcd1, ↓vcd2, ↓vcd3]) (by simp -implicitDefEqProofs (disch := omega) only [List.any_cons, List.any_nil, Nat.reduceEqDiff, List.map_cons, List.map_nil, Option.map_some, Option.map_none, List.nil_append, ↓reduceIte, vcu0, vcu1, vcu2, vcu3, vcu4, vcu5, vcu6, vcu7, vcu8, vcu9, vcu10, vcu11, vcu12, vcu13, vcu14, vcu15, vcu16, ↓vcd0, ↓vcd1, ↓vcd2, ↓vcd3]) (by omega) fun g τ hg hs he => ?_
  rw [azeros_nil] at he
  simp -implicitDefEqProofs (disch := omega) only [List.any_cons, List.any_nil, Nat.reduceEqDiff, List.map_cons, List.map_nil, Option.map_some, Option.map_none, List.nil_append, ↓reduceIte, vcu0, vcu1, vcu2, vcu3, vcu4, vcu5, vcu6, vcu7, vcu8, vcu9, vcu10, vcu11, vcu12, vcu13, vcu14, vcu15, vcu16, ↓vcd0, ↓vcd1, ↓vcd2, ↓vcd3]
  refine vc_loop_c mixed (by kernel_rfl) [0, 3] (fun m a σ' => ∃ (k : Nat) (vs : List Value), m + k = rows.length ∧ a 4 = .int .i64 k ∧ vs.length = k ∧ Sub σ σ' ∧ σ' g = some ⟨vs ++ List.replicate (rows.length - k) (.slice none 0 0), false⟩ ∧
    ∀ i, i < k → ∃ q, vs[i]? = some (.slice (some ⟨q, 0, none⟩) (rows.getD i []).length 1) ∧ q ≠ g ∧ σ' q = some ⟨ints .i64 (rows.getD i []), false⟩) rows.length ⟨0, [], by simp, rfl, rfl, hs, by simpa using he, by simp⟩ ?_
  rintro m a σ' hc ⟨k, vs, hk, h4, hvs, hsub, hgk, hall⟩
  simp -implicitDefEqProofs (disch := omega) only [List.any_cons, List.any_nil, Nat.reduceEqDiff, List.map_cons, List.map_nil, Option.map_some, Option.map_none, List.nil_append, ↓reduceIte, vcu0, vcu1, vcu2, vcu3, vcu4, vcu5, vcu6, vcu7, vcu8, vcu9, vcu10, vcu11, vcu12, vcu13, vcu14, vcu15, vcu16, ↓vcd0, ↓vcd1, ↓vcd2, ↓vcd3] at hc
  obtain ⟨h0, h3, -⟩ := hc
  by_cases hlt : k < rows.length
  · obtain ⟨v, hx, hi⟩ := (hv.sub hsub) k hlt
    have hrk := hr k hlt
    generalize hrow : rows.getD k [] = row at hi hrk
    simp -implicitDefEqProofs (disch := omega) only [List.any_cons, List.any_nil, Nat.reduceEqDiff, List.map_cons, List.map_nil, Option.map_some, Option.map_none, List.nil_append, ↓reduceIte, vcu0, vcu1, vcu2, vcu3, vcu4, vcu5, vcu6, vcu7, vcu8, vcu9, vcu10, vcu11, vcu12, vcu13, vcu14, vcu15, vcu16, ↓vcd0, ↓vcd1, ↓vcd2, ↓vcd3, h0, h3, h4, hx]
    refine (toInts_calls σ' v row hi hrk).mono ?_
    rintro r τ3 ⟨q, nq, rfl, s3, e3⟩
    have hne : q ≠ g := ne_of nq hgk
    simp -implicitDefEqProofs (disch := omega) only [List.any_cons, List.any_nil, Nat.reduceEqDiff, List.map_cons, List.map_nil, Option.map_some, Option.map_none, List.nil_append, ↓reduceIte, vcu0, vcu1, vcu2, vcu3, vcu4, vcu5, vcu6, vcu7, vcu8, vcu9, vcu10, vcu11, vcu12, vcu13, vcu14, vcu15, vcu16, ↓vcd0, ↓vcd1, ↓vcd2, ↓vcd3, opK_some, h0, h3, h4]
    refine r_set (g := g) (i := 0 + k) (by simp -implicitDefEqProofs (disch := omega) only [List.any_cons, List.any_nil, Nat.reduceEqDiff, List.map_cons, List.map_nil, Option.map_some, Option.map_none, List.nil_append, ↓reduceIte, vcu0, vcu1, vcu2, vcu3, vcu4, vcu5, vcu6, vcu7, vcu8, vcu9, vcu10, vcu11, vcu12, vcu13, vcu14, vcu15, vcu16, ↓vcd0, ↓vcd1, ↓vcd2, ↓vcd3, h3]) (by simp -implicitDefEqProofs (disch := omega) only [List.any_cons, List.any_nil, Nat.reduceEqDiff, List.map_cons, List.map_nil, Option.map_some, Option.map_none, List.nil_append, ↓reduceIte, vcu0, vcu1, vcu2, vcu3, vcu4, vcu5, vcu6, vcu7, vcu8, vcu9, vcu10, vcu11, vcu12, vcu13, vcu14, vcu15, vcu16, ↓vcd0, ↓vcd1, ↓vcd2, ↓vcd3]; rfl) co27 (by simp -implicitDefEqProofs (disch := omega) only [List.any_cons, List.any_nil, Nat.reduceEqDiff, List.map_cons, List.map_nil, Option.map_some, Option.map_none, List.nil_append, ↓reduceIte, vcu0, vcu1, vcu2, vcu3, vcu4, vcu5, vcu6, vcu7, vcu8, vcu9, vcu10, vcu11, vcu12, vcu13, vcu14, vcu15, vcu16, ↓vcd0, ↓vcd1, ↓vcd2, ↓vcd3]; rfl) (s3 _ _ hgk) (by simp; omega) fun τ4 k4 e4 => ?_
    simp -implicitDefEqProofs (disch := omega) only [List.any_cons, List.any_nil, Nat.reduceEqDiff, List.map_cons, List.map_nil, Option.map_some, Option.map_none, List.nil_append, ↓reduceIte, vcu0, vcu1, vcu2, vcu3, vcu4, vcu5, vcu6, vcu7, vcu8, vcu9, vcu10, vcu11, vcu12, vcu13, vcu14, vcu15, vcu16, ↓vcd0, ↓vcd1, ↓vcd2, ↓vcd3, Nat.zero_add] at e4
    rw [set_new hvs hlt] at e4
    simp -implicitDefEqProofs (disch := omega) only [List.any_cons, List.any_nil, Nat.reduceEqDiff, List.map_cons, List.map_nil, Option.map_some, Option.map_none, List.nil_append, ↓reduceIte, vcu0, vcu1, vcu2, vcu3, vcu4, vcu5, vcu6, vcu7, vcu8, vcu9, vcu10, vcu11, vcu12, vcu13, vcu14, vcu15, vcu16, ↓vcd0, ↓vcd1, ↓vcd2, ↓vcd3, h0, h3, h4]
    refine ⟨⟨trivial, trivial, trivial⟩, m - 1, by omega, k + 1, vs ++ [.slice (some ⟨q, 0, none⟩) row.length 1], by omega, by simp, by simp [hvs], k4.sub (hsub.trans s3) hg, e4, fun i hi => ?_⟩
    by_cases e : i = k
    · subst e
      exact ⟨q, by rw [hrow]; simp [hvs], hne, by rw [hrow]; exact k4.at e3 hne⟩
    · obtain ⟨q', b1, b2, b3⟩ := hall i (by omega)
      exact ⟨q', by rw [List.getElem?_append_left (by omega)]; exact b1, b2, k4.at (s3 _ _ b3) b2⟩
  · simp -implicitDefEqProofs (disch := omega) only [List.any_cons, List.any_nil, Nat.reduceEqDiff, List.map_cons, List.map_nil, Option.map_some, Option.map_none, List.nil_append, ↓reduceIte, vcu0, vcu1, vcu2, vcu3, vcu4, vcu5, vcu6, vcu7, vcu8, vcu9, vcu10, vcu11, vcu12, vcu13, vcu14, vcu15, vcu16, ↓vcd0, ↓vcd1, ↓vcd2, ↓vcd3, h0, h3, h4]
    have e2 : k = rows.length := by omega
    subst e2
    refine fin_one Try.results39 ⟨g, hg, ?_, hsub, fun i hi => ?_⟩
    · simp -implicitDefEqProofs (disch := omega) only [List.any_cons, List.any_nil, Nat.reduceEqDiff, List.map_cons, List.map_nil, Option.map_some, Option.map_none, List.nil_append, ↓reduceIte, vcu0, vcu1, vcu2, vcu3, vcu4, vcu5, vcu6, vcu7, vcu8, vcu9, vcu10, vcu11, vcu12, vcu13, vcu14, vcu15, vcu16, ↓vcd0, ↓vcd1, ↓vcd2, ↓vcd3, h3]
    · obtain ⟨q, b1, b2, b3⟩ := hall i hi
      refine ⟨_, ?_, .inr ⟨q, 0, rfl, intsAt_own b3⟩⟩
      unfold ld
      rw [hgk]
      simpa using b1
end Go.Proofs.Ytbfldpcikcdlpaa

/- MatchFirst, of the program and of the reference. -/
import Derived.Test.YtbfldpcikcdlpaaQb
set_option linter.unusedSimpArgs false
set_option linter.unusedVariables false
namespace Go.Proofs.Ytbfldpcikcdlpaa
open Go Go.Abs Go.RowKit
variable {w0 : World}

theorem tv_sq {rows : List (List Int)} (hT : TV rows) : Sq rows.length rows := ⟨rfl, fun i hi => (hT.2 i hi).1⟩
theorem implMF_at (σ : AHeap) (h o : Nat) (rows : List (List Int)) (hv : RowsAt σ h o rows) (hl : rows.length ≤ 1048576) :
    ACall Try.prog w0 30 [.slice (some ⟨h, o, none⟩) rows.length 1] σ fun r σ' => ∃ (v : Value) (b : Bool) (ps : List Int), r = .tuple #[v, .bool b] ∧ Sub σ σ' ∧ OwnI σ σ' v ps ∧ MatchF rows ps b := by
  refine acall_go mixed Try.func30 rfl good30 ?_
  simp -implicitDefEqProofs (disch := omega) only [List.any_cons, List.any_nil, Nat.reduceEqDiff, List.map_cons, List.map_nil, Option.map_some, Option.map_none, List.nil_append, ↓reduceIte, vcu0, vcu1, vcu2, vcu3, vcu4, vcu5, vcu6, vcu7, vcu8, vcu9, vcu10, vcu11, vcu12, vcu13, vcu14, vcu15, vcu16, ↓vcd0, ↓vcd1, ↓vcd2, ↓vcd3]
  refine (implTV_at σ h o rows hv hl).mono ?_
  rintro r _ ⟨rfl, rfl⟩
  rename_i σ
  by_cases hT : TV rows
  · rw [decide_eq_true hT]
    simp -implicitDefEqProofs (disch := omega) only [List.any_cons, List.any_nil, Nat.reduceEqDiff, List.map_cons, List.map_nil, Option.map_some, Option.map_none, List.nil_append, ↓reduceIte, vcu0, vcu1, vcu2, vcu3, vcu4, vcu5, vcu6, vcu7, vcu8, vcu9, vcu10, vcu11, vcu12, vcu13, vcu14, vcu15, vcu16, ↓vcd0, ↓vcd1, ↓vcd2, ↓vcd3, opK_some]
    refine (leastMatch_at σ h o rows rows.length hv (tv_sq hT) hT.1).mono ?_
    rintro r σ1 ⟨v, b, ps, rfl, s1, hO, hf, ht⟩
    simp -implicitDefEqProofs (disch := omega) only [List.any_cons, List.any_nil, Nat.reduceEqDiff, List.map_cons, List.map_nil, Option.map_some, Option.map_none, List.nil_append, ↓reduceIte, vcu0, vcu1, vcu2, vcu3, vcu4, vcu5, vcu6, vcu7, vcu8, vcu9, vcu10, vcu11, vcu12, vcu13, vcu14, vcu15, vcu16, ↓vcd0, ↓vcd1, ↓vcd2, ↓vcd3, opK_some, List.getElem?_toArray, List.getElem?_cons_zero, List.getElem?_cons_succ]
    refine fin_two Try.results30 ⟨v, b, ps, ?_, s1, hO, .inr ⟨hT, ?_⟩⟩
    · simp -implicitDefEqProofs (disch := omega) only [List.any_cons, List.any_nil, Nat.reduceEqDiff, List.map_cons, List.map_nil, Option.map_some, Option.map_none, List.nil_append, ↓reduceIte, vcu0, vcu1, vcu2, vcu3, vcu4, vcu5, vcu6, vcu7, vcu8, vcu9, vcu10, vcu11, vcu12, vcu13, vcu14, vcu15, vcu16, ↓vcd0, ↓vcd1, ↓vcd2, ↓vcd3]
    · cases b with
      | false => exact .inl ⟨rfl, hf rfl⟩
      | true => exact .inr ⟨rfl, ht rfl⟩
  · rw [decide_eq_false hT]
    simp -implicitDefEqProofs (disch := omega) only [List.any_cons, List.any_nil, Nat.reduceEqDiff, List.map_cons, List.map_nil, Option.map_some, Option.map_none, List.nil_append, ↓reduceIte, vcu0, vcu1, vcu2, vcu3, vcu4, vcu5, vcu6, vcu7, vcu8, vcu9, vcu10, vcu11, vcu12, vcu13, vcu14, vcu15, vcu16, ↓vcd0, ↓vcd1, ↓vcd2, ↓vcd3, opK_some]
    refine fin_two Try.results30 ⟨.slice none 0 0, false, [], ?_, Sub.refl _, .inl ⟨rfl, rfl⟩, .inl ⟨hT, rfl, rfl⟩⟩
    simp -implicitDefEqProofs (disch := omega) only [List.any_cons, List.any_nil, Nat.reduceEqDiff, List.map_cons, List.map_nil, Option.map_some, Option.map_none, List.nil_append, ↓reduceIte, vcu0, vcu1, vcu2, vcu3, vcu4, vcu5, vcu6, vcu7, vcu8, vcu9, vcu10, vcu11, vcu12, vcu13, vcu14, vcu15, vcu16, ↓vcd0, ↓vcd1, ↓vcd2, ↓vcd3]

theorem cover_at (σ : AHeap) (h o g p : Nat) (rows : List (List Int)) (ps : List Int) (hv : RowsAt σ h o rows) (hT : TV rows) (hp : IntsAt .i64 σ g p ps) (hl : ps.length = rows.length) (hi : ∀ j, j < rows.length → 0 ≤ ps.getD j 0 ∧ ps.getD j 0 < rows.length) :
    ACall Try.prog w0 56 [.slice (some ⟨h, o, none⟩) rows.length 1, .slice (some ⟨g, p, none⟩) ps.length 1] σ fun r σ' => ∃ b : Bool, r = .bool b ∧ (b = true ↔ Cov rows ps) ∧ σ' = σ := by
  have h6 := hT.1
  refine acall_go mixed Try.func56 rfl good56 ?_
  simp -implicitDefEqProofs (disch := omega) only [List.any_cons, List.any_nil, Nat.reduceEqDiff, List.map_cons, List.map_nil, Option.map_some, Option.map_none, List.nil_append, ↓reduceIte, vcu0, vcu1, vcu2, vcu3, vcu4, vcu5, vcu6, vcu7, vcu8, vcu9, vcu10, vcu11, vcu12, vcu13, vcu14, vcu15, vcu16, ↓vcd0, ↓vcd1, ↓vcd2, ↓vcd3]
  refine vc_loop_c mixed (by kernel_rfl) [0, 1] (fun m a σ' => ∃ k : Nat, m + k = rows.length ∧ a 5 = .int .i64 k ∧ σ' = σ ∧ ∀ j, j < k → Edge rows j (ps.getD j 0).toNat) rows.length ⟨0, by simp, rfl, rfl, fun j hj => absurd hj (by omega)⟩ ?_
  rintro m a σ' hc ⟨k, hk, h5, rfl, hall⟩
  simp -implicitDefEqProofs (disch := omega) only [List.any_cons, List.any_nil, Nat.reduceEqDiff, List.map_cons, List.map_nil, Option.map_some, Option.map_none, List.nil_append, ↓reduceIte, vcu0, vcu1, vcu2, vcu3, vcu4, vcu5, vcu6, vcu7, vcu8, vcu9, vcu10, vcu11, vcu12, vcu13, vcu14, vcu15, vcu16, ↓vcd0, ↓vcd1, ↓vcd2, ↓vcd3, hl] at hc
  obtain ⟨h0, h1, -⟩ := hc
  by_cases hlt : k < rows.length
  · obtain ⟨v, hx, hiv⟩ := hv k hlt
    have hy := hp k (by omega)
    have hik := hi k hlt
    have hrl := (hT.2 k hlt).1
    have hat := hT.at (i := k) (j := (ps.getD k 0).toNat) hlt (by omega)
    have hE : Edge rows k (ps.getD k 0).toNat ↔ 0 < (rows.getD k []).getD (ps.getD k 0).toNat 0 := Iff.rfl
    generalize rows.getD k [] = row at hiv hrl hat hE
    rcases hiv with ⟨rfl, rfl⟩ | ⟨e, o2, rfl, hrow⟩
    · simp at hrl; omega
    have hz := hrow (ps.getD k 0).toNat (by omega)
    rw [hrl] at hx
    by_cases h00 : row.getD (ps.getD k 0).toNat 0 = 0
    · simp -implicitDefEqProofs (disch := omega) only [List.any_cons, List.any_nil, Nat.reduceEqDiff, List.map_cons, List.map_nil, Option.map_some, Option.map_none, List.nil_append, ↓reduceIte, vcu0, vcu1, vcu2, vcu3, vcu4, vcu5, vcu6, vcu7, vcu8, vcu9, vcu10, vcu11, vcu12, vcu13, vcu14, vcu15, vcu16, ↓vcd0, ↓vcd1, ↓vcd2, ↓vcd3, h0, h1, h5, hx, hy, hz, h00, decide_true]
      refine fin_one Try.results56 ⟨false, ?_, ⟨fun h => (by cases h), fun hC => ?_⟩, rfl⟩
      · simp -implicitDefEqProofs (disch := omega) only [List.any_cons, List.any_nil, Nat.reduceEqDiff, List.map_cons, List.map_nil, Option.map_some, Option.map_none, List.nil_append, ↓reduceIte, vcu0, vcu1, vcu2, vcu3, vcu4, vcu5, vcu6, vcu7, vcu8, vcu9, vcu10, vcu11, vcu12, vcu13, vcu14, vcu15, vcu16, ↓vcd0, ↓vcd1, ↓vcd2, ↓vcd3]
      · have := hE.1 (hC k hlt); omega
    · simp -implicitDefEqProofs (disch := omega) only [List.any_cons, List.any_nil, Nat.reduceEqDiff, List.map_cons, List.map_nil, Option.map_some, Option.map_none, List.nil_append, ↓reduceIte, vcu0, vcu1, vcu2, vcu3, vcu4, vcu5, vcu6, vcu7, vcu8, vcu9, vcu10, vcu11, vcu12, vcu13, vcu14, vcu15, vcu16, ↓vcd0, ↓vcd1, ↓vcd2, ↓vcd3, h0, h1, h5, hx, hy, hz, h00, decide_false]
      refine ⟨?_, m - 1, by omega, k + 1, by omega, by simp, trivial, fun j hj => ?_⟩
      · first | trivial | simp [h0, h1, hl]
      · by_cases e : j = k
        · subst e; exact hE.2 (by omega)
        · exact hall j (by omega)
  · simp -implicitDefEqProofs (disch := omega) only [List.any_cons, List.any_nil, Nat.reduceEqDiff, List.map_cons, List.map_nil, Option.map_some, Option.map_none, List.nil_append, ↓reduceIte, vcu0, vcu1, vcu2, vcu3, vcu4, vcu5, vcu6, vcu7, vcu8, vcu9, vcu10, vcu11, vcu12, vcu13, vcu14, vcu15, vcu16, ↓vcd0, ↓vcd1, ↓vcd2, ↓vcd3, h0, h1, h5, hl]
    refine fin_one Try.results56 ⟨true, ?_, ⟨fun _ j hj => hall j (by omega), fun _ => rfl⟩, rfl⟩
    simp -implicitDefEqProofs (disch := omega) only [List.any_cons, List.any_nil, Nat.reduceEqDiff, List.map_cons, List.map_nil, Option.map_some, Option.map_none, List.nil_append, ↓reduceIte, vcu0, vcu1, vcu2, vcu3, vcu4, vcu5, vcu6, vcu7, vcu8, vcu9, vcu10, vcu11, vcu12, vcu13, vcu14, vcu15, vcu16, ↓vcd0, ↓vcd1, ↓vcd2, ↓vcd3]

theorem specMF_at (σ : AHeap) (h o : Nat) (rows : List (List Int)) (hv : RowsAt σ h o rows) (hl : rows.length ≤ 1048576) :
    ACall Try.prog w0 31 [.slice (some ⟨h, o, none⟩) rows.length 1] σ fun r σ' => ∃ (v : Value) (b : Bool) (ps : List Int), r = .tuple #[v, .bool b] ∧ Sub σ σ' ∧ OwnI σ σ' v ps ∧ MatchF rows ps b := by
  refine acall_go mixed Try.func31 rfl good31 ?_
  simp -implicitDefEqProofs (disch := omega) only [List.any_cons, List.any_nil, Nat.reduceEqDiff, List.map_cons, List.map_nil, Option.map_some, Option.map_none, List.nil_append, ↓reduceIte, vcu0, vcu1, vcu2, vcu3, vcu4, vcu5, vcu6, vcu7, vcu8, vcu9, vcu10, vcu11, vcu12, vcu13, vcu14, vcu15, vcu16, ↓vcd0, ↓vcd1, ↓vcd2, ↓vcd3]
  refine (specTV_at σ h o rows hv hl).mono ?_
  rintro r _ ⟨rfl, rfl⟩
  rename_i σ
  by_cases hT : TV rows
  · rw [decide_eq_true hT]
    have h6 := hT.1
    have hfl := fac_le h6
    simp -implicitDefEqProofs (disch := omega) only [List.any_cons, List.any_nil, Nat.reduceEqDiff, List.map_cons, List.map_nil, Option.map_some, Option.map_none, List.nil_append, ↓reduceIte, vcu0, vcu1, vcu2, vcu3, vcu4, vcu5, vcu6, vcu7, vcu8, vcu9, vcu10, vcu11, vcu12, vcu13, vcu14, vcu15, vcu16, ↓vcd0, ↓vcd1, ↓vcd2, ↓vcd3, opK_some]
    refine vc_loop_c mixed (by kernel_rfl) [0] (fun m a σ' => ∃ k : Nat, m + k = fac rows.length ∧ a 4 = .int .i64 k ∧ Sub σ σ' ∧ ∀ r', r' < k → ¬ Cov rows (ofV rows.length r')) (fac rows.length) ⟨0, by simp, rfl, Sub.refl _, fun r' hr => absurd hr (by omega)⟩ ?_
    rintro m a σ' hc ⟨k, hk, h4, hs, hno⟩
    simp -implicitDefEqProofs (disch := omega) only [List.any_cons, List.any_nil, Nat.reduceEqDiff, List.map_cons, List.map_nil, Option.map_some, Option.map_none, List.nil_append, ↓reduceIte, vcu0, vcu1, vcu2, vcu3, vcu4, vcu5, vcu6, vcu7, vcu8, vcu9, vcu10, vcu11, vcu12, vcu13, vcu14, vcu15, vcu16, ↓vcd0, ↓vcd1, ↓vcd2, ↓vcd3] at hc
    obtain ⟨h0, -⟩ := hc
    simp -implicitDefEqProofs (disch := omega) only [List.any_cons, List.any_nil, Nat.reduceEqDiff, List.map_cons, List.map_nil, Option.map_some, Option.map_none, List.nil_append, ↓reduceIte, vcu0, vcu1, vcu2, vcu3, vcu4, vcu5, vcu6, vcu7, vcu8, vcu9, vcu10, vcu11, vcu12, vcu13, vcu14, vcu15, vcu16, ↓vcd0, ↓vcd1, ↓vcd2, ↓vcd3, h0, h4]
    refine (specFac_calls σ' rows.length (by omega)).mono ?_
    rintro r _ ⟨rfl, rfl⟩
    rename_i σ'
    rw [Int.toNat_natCast]
    by_cases hlt : k < fac rows.length
    · have ho : OfOk rows.length k := ⟨by omega, by omega, by omega, by simpa using hlt⟩
      obtain ⟨hV, -, hlen, -⟩ := of_ok ho
      simp -implicitDefEqProofs (disch := omega) only [List.any_cons, List.any_nil, Nat.reduceEqDiff, List.map_cons, List.map_nil, Option.map_some, Option.map_none, List.nil_append, ↓reduceIte, vcu0, vcu1, vcu2, vcu3, vcu4, vcu5, vcu6, vcu7, vcu8, vcu9, vcu10, vcu11, vcu12, vcu13, vcu14, vcu15, vcu16, ↓vcd0, ↓vcd1, ↓vcd2, ↓vcd3, opK_some, h0, h4]
      refine (specOf_at σ' rows.length k (by omega)).mono ?_
      rintro r σ2 ⟨v, rfl, s2, hO⟩
      rw [decide_eq_true ho]
      simp -implicitDefEqProofs (disch := omega) only [List.any_cons, List.any_nil, Nat.reduceEqDiff, List.map_cons, List.map_nil, Option.map_some, Option.map_none, List.nil_append, ↓reduceIte, vcu0, vcu1, vcu2, vcu3, vcu4, vcu5, vcu6, vcu7, vcu8, vcu9, vcu10, vcu11, vcu12, vcu13, vcu14, vcu15, vcu16, ↓vcd0, ↓vcd1, ↓vcd2, ↓vcd3, opK_some, List.getElem?_toArray, List.getElem?_cons_zero, List.getElem?_cons_succ, h0, h4]
      have hin : ∀ j, j < rows.length → 0 ≤ (ofV rows.length k).getD j 0 ∧ (ofV rows.length k).getD j 0 < rows.length := fun j hj => by
        have := hV.1.1 ((ofV rows.length k).getD j 0) (by simp [List.getD, hlen, hj]); rw [hlen] at this; exact this
      have hcov : ACall Try.prog w0 56 [.slice (some ⟨h, o, none⟩) rows.length 1, v] σ2 fun r σ' => ∃ b : Bool, r = .bool b ∧ (b = true ↔ Cov rows (ofV rows.length k)) ∧ Sub σ2 σ' := by
        rcases hO with ⟨rfl, e⟩ | ⟨g, rfl, hg, -⟩
        · refine ACall.nil_arg (pre := [_]) (post := []) (z := 1) (by kernel_rfl) fun gz hz => ?_
          rw [e] at hlen hin ⊢
          refine (cover_at _ h o gz 0 rows [] ((hv.sub (hs.trans s2)).sub (sub_upd hz)) hT (fun i hi => absurd hi (by simp)) hlen hin).mono ?_
          rintro r σ' ⟨b, rfl, h1, rfl⟩
          exact ⟨b, rfl, h1, sub_upd hz⟩
        · refine (cover_at σ2 h o g 0 rows _ (hv.sub (hs.trans s2)) hT (intsAt_own hg) hlen hin).mono ?_
          rintro r σ' ⟨b, rfl, h1, rfl⟩
          exact ⟨b, rfl, h1, Sub.refl _⟩
      refine hcov.mono ?_
      rintro r σ3 ⟨b, rfl, hb, s3⟩
      cases b with
      | true =>
        simp -implicitDefEqProofs (disch := omega) only [List.any_cons, List.any_nil, Nat.reduceEqDiff, List.map_cons, List.map_nil, Option.map_some, Option.map_none, List.nil_append, ↓reduceIte, vcu0, vcu1, vcu2, vcu3, vcu4, vcu5, vcu6, vcu7, vcu8, vcu9, vcu10, vcu11, vcu12, vcu13, vcu14, vcu15, vcu16, ↓vcd0, ↓vcd1, ↓vcd2, ↓vcd3, opK_some]
        refine fin_two Try.results31 ⟨v, true, ofV rows.length k, ?_, (hs.trans s2).trans s3, ?_, .inr ⟨hT, .inr ⟨rfl, hlen, first_pre h6 ho (hb.1 rfl) hno⟩⟩⟩
        · simp -implicitDefEqProofs (disch := omega) only [List.any_cons, List.any_nil, Nat.reduceEqDiff, List.map_cons, List.map_nil, Option.map_some, Option.map_none, List.nil_append, ↓reduceIte, vcu0, vcu1, vcu2, vcu3, vcu4, vcu5, vcu6, vcu7, vcu8, vcu9, vcu10, vcu11, vcu12, vcu13, vcu14, vcu15, vcu16, ↓vcd0, ↓vcd1, ↓vcd2, ↓vcd3]
        · rcases hO with ⟨e1, e2⟩ | ⟨g, e1, hg, hn⟩
          · exact .inl ⟨e1, e2⟩
          · exact .inr ⟨g, e1, s3 _ _ hg, free_sub hs hn⟩
      | false =>
        simp -implicitDefEqProofs (disch := omega) only [List.any_cons, List.any_nil, Nat.reduceEqDiff, List.map_cons, List.map_nil, Option.map_some, Option.map_none, List.nil_append, ↓reduceIte, vcu0, vcu1, vcu2, vcu3, vcu4, vcu5, vcu6, vcu7, vcu8, vcu9, vcu10, vcu11, vcu12, vcu13, vcu14, vcu15, vcu16, ↓vcd0, ↓vcd1, ↓vcd2, ↓vcd3, opK_some, h0, h4]
        refine ⟨?_, m - 1, by omega, k + 1, by omega, by simp, (hs.trans s2).trans s3, fun r' hr => ?_⟩
        · first | trivial | simp [h0]
        · by_cases e : r' = k
          · subst e; exact fun hC => absurd (hb.2 hC) (by simp)
          · exact hno r' (by omega)
    · simp -implicitDefEqProofs (disch := omega) only [List.any_cons, List.any_nil, Nat.reduceEqDiff, List.map_cons, List.map_nil, Option.map_some, Option.map_none, List.nil_append, ↓reduceIte, vcu0, vcu1, vcu2, vcu3, vcu4, vcu5, vcu6, vcu7, vcu8, vcu9, vcu10, vcu11, vcu12, vcu13, vcu14, vcu15, vcu16, ↓vcd0, ↓vcd1, ↓vcd2, ↓vcd3, opK_some, h0, h4]
      refine r_lit el27 (out := #[]) (by kernel_rfl) (by kernel_rfl) fun e7 τ7 n7 s7 v7 => ?_
      simp -implicitDefEqProofs (disch := omega) only [List.any_cons, List.any_nil, Nat.reduceEqDiff, List.map_cons, List.map_nil, Option.map_some, Option.map_none, List.nil_append, ↓reduceIte, vcu0, vcu1, vcu2, vcu3, vcu4, vcu5, vcu6, vcu7, vcu8, vcu9, vcu10, vcu11, vcu12, vcu13, vcu14, vcu15, vcu16, ↓vcd0, ↓vcd1, ↓vcd2, ↓vcd3]
      refine fin_two Try.results31 ⟨_, false, [], ?_, hs.trans s7, .inr ⟨e7, rfl, v7, free_sub hs n7⟩, .inr ⟨hT, .inl ⟨rfl, rfl, none_can h6 (fun r' hr => hno r' (by omega))⟩⟩⟩
      simp -implicitDefEqProofs (disch := omega) only [List.any_cons, List.any_nil, Nat.reduceEqDiff, List.map_cons, List.map_nil, Option.map_some, Option.map_none, List.nil_append, ↓reduceIte, vcu0, vcu1, vcu2, vcu3, vcu4, vcu5, vcu6, vcu7, vcu8, vcu9, vcu10, vcu11, vcu12, vcu13, vcu14, vcu15, vcu16, ↓vcd0, ↓vcd1, ↓vcd2, ↓vcd3]
      rfl
  · rw [decide_eq_false hT]
    simp -implicitDefEqProofs (disch := omega) only [List.any_cons, List.any_nil, Nat.reduceEqDiff, List.map_cons, List.map_nil, Option.map_some, Option.map_none, List.nil_append, ↓reduceIte, vcu0, vcu1, vcu2, vcu3, vcu4, vcu5, vcu6, vcu7, vcu8, vcu9, vcu10, vcu11, vcu12, vcu13, vcu14, vcu15, vcu16, ↓vcd0, ↓vcd1, ↓vcd2, ↓vcd3, opK_some]
    refine r_lit el27 (out := #[]) (by kernel_rfl) (by kernel_rfl) fun e7 τ7 n7 s7 v7 => ?_
    simp -implicitDefEqProofs (disch := omega) only [List.any_cons, List.any_nil, Nat.reduceEqDiff, List.map_cons, List.map_nil, Option.map_some, Option.map_none, List.nil_append, ↓reduceIte, vcu0, vcu1, vcu2, vcu3, vcu4, vcu5, vcu6, vcu7, vcu8, vcu9, vcu10, vcu11, vcu12, vcu13, vcu14, vcu15, vcu16, ↓vcd0, ↓vcd1, ↓vcd2, ↓vcd3]
    refine fin_two Try.results31 ⟨_, false, [], ?_, s7, .inr ⟨e7, rfl, v7, n7⟩, .inl ⟨hT, rfl, rfl⟩⟩
    simp -implicitDefEqProofs (disch := omega) only [List.any_cons, List.any_nil, Nat.reduceEqDiff, List.map_cons, List.map_nil, Option.map_some, Option.map_none, List.nil_append, ↓reduceIte, vcu0, vcu1, vcu2, vcu3, vcu4, vcu5, vcu6, vcu7, vcu8, vcu9, vcu10, vcu11, vcu12, vcu13, vcu14, vcu15, vcu16, ↓vcd0, ↓vcd1, ↓vcd2, ↓vcd3]
    rfl
end Go.Proofs.Ytbfldpcikcdlpaa

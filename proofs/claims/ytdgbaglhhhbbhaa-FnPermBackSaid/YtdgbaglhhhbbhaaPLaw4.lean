/- FnPermBack answers true for every code. -/
import Derived.Test.YtdgbaglhhhbbhaaPi
import Derived.Test.YtdgbaglhhhbbhaaPq
set_option linter.unusedSimpArgs false
set_option linter.unusedVariables false
namespace Go.Proofs.Ytdgbaglhhhbbhaa
open Go Go.Abs Go.RowKit
variable {w0 : World}

def backOK (xs : List Int) : Bool := (inv (inv xs xs.length) (inv xs xs.length).length == xs) && (thn xs (inv xs xs.length) xs.length == (List.range xs.length).map fun (i : Nat) => (i : Int))
theorem back_all : allV.all backOK = true := by kernel_rfl

theorem law4 (σ : AHeap) (v : Value) (bs : List Int) (hv : Ints .u8 σ v bs) (hm : bs.length ≤ maxLen) (hw : ∀ z ∈ bs, (Lit.int .u8 z).wf = true) :
    ACall Try.prog w0 4 [v] σ fun r _ => r = .bool true := by
  unfold maxLen at hm
  refine ACall.ints_arg (pre := []) (by kernel_rfl) hv fun σ1 h o hs hg => ?_
  clear hv hs σ v
  have hb := bytes_of hw
  refine acall_go mixed Try.func4 rfl good4 ?_
  by_cases hbig : 1048576 < bs.length
  · simp -implicitDefEqProofs (disch := omega) only [Nat.reduceEqDiff, List.map_cons, List.map_nil, Option.map_some, Option.map_none, List.nil_append, ↓reduceIte, vcu0, vcu1, vcu2, vcu3, vcu4, vcu5, vcu6, vcu7, vcu8, vcu9, vcu10, ↓vcd0, ↓vcd1, ↓vcd2]
    refine fin_one Try.results4 ?_
    simp -implicitDefEqProofs (disch := omega) only [Nat.reduceEqDiff, List.map_cons, List.map_nil, Option.map_some, Option.map_none, List.nil_append, ↓reduceIte, vcu0, vcu1, vcu2, vcu3, vcu4, vcu5, vcu6, vcu7, vcu8, vcu9, vcu10, ↓vcd0, ↓vcd1, ↓vcd2]
  have hl : bs.length ≤ 1048576 := by omega
  simp -implicitDefEqProofs (disch := omega) only [Nat.reduceEqDiff, List.map_cons, List.map_nil, Option.map_some, Option.map_none, List.nil_append, ↓reduceIte, vcu0, vcu1, vcu2, vcu3, vcu4, vcu5, vcu6, vcu7, vcu8, vcu9, vcu10, ↓vcd0, ↓vcd1, ↓vcd2]
  refine (drawBack_at σ1 h o bs hg hl hb).mono ?_
  rintro r τ ⟨q, ps, rfl, h7, hs, hq, hqf⟩
  simp -implicitDefEqProofs (disch := omega) only [Nat.reduceEqDiff, List.map_cons, List.map_nil, Option.map_some, Option.map_none, List.nil_append, ↓reduceIte, vcu0, vcu1, vcu2, vcu3, vcu4, vcu5, vcu6, vcu7, vcu8, vcu9, vcu10, ↓vcd0, ↓vcd1, ↓vcd2, opK_some]
  refine (implBack_at τ q 0 ps (intsAt_own hq) (by omega)).mono ?_
  rintro r τ1 (⟨hn, rfl, hτ1⟩ | ⟨hV, g, hg, rfl, hτ1⟩)
  · have hq1 : τ1 q = some ⟨ints .i64 ps, false⟩ := by rw [hτ1]; exact hq
    simp -implicitDefEqProofs (disch := omega) only [Nat.reduceEqDiff, List.map_cons, List.map_nil, Option.map_some, Option.map_none, List.nil_append, ↓reduceIte, vcu0, vcu1, vcu2, vcu3, vcu4, vcu5, vcu6, vcu7, vcu8, vcu9, vcu10, ↓vcd0, ↓vcd1, ↓vcd2, opK_some]
    refine (specBack_at τ1 q 0 ps (intsAt_own hq1) (by omega)).mono ?_
    rintro r τ2 ⟨g2, ys, hys, hg2, rfl, hτ2⟩
    rw [if_neg hn] at hys
    subst hys
    have hq2 : τ2 q = some ⟨ints .i64 ps, false⟩ := by rw [hτ2]; exact put_other hq1 hg2
    have hy2 : τ2 g2 = some ⟨ints .i64 [], false⟩ := by rw [hτ2]; exact AHeap.upd_same _ _ _
    simp -implicitDefEqProofs (disch := omega) only [Nat.reduceEqDiff, List.map_cons, List.map_nil, Option.map_some, Option.map_none, List.nil_append, ↓reduceIte, vcu0, vcu1, vcu2, vcu3, vcu4, vcu5, vcu6, vcu7, vcu8, vcu9, vcu10, ↓vcd0, ↓vcd1, ↓vcd2, opK_some]
    refine (same_calls τ2 _ _ [] [] (.inl ⟨rfl, rfl⟩) (.inr ⟨g2, 0, rfl, intsAt_own hy2⟩) (by simp) (by simp)).mono ?_
    rintro r _ ⟨rfl, rfl⟩
    simp -implicitDefEqProofs (disch := omega) only [Nat.reduceEqDiff, List.map_cons, List.map_nil, Option.map_some, Option.map_none, List.nil_append, ↓reduceIte, vcu0, vcu1, vcu2, vcu3, vcu4, vcu5, vcu6, vcu7, vcu8, vcu9, vcu10, ↓vcd0, ↓vcd1, ↓vcd2, opK_some]
    refine (specValid_at _ q 0 ps (intsAt_own hq2) (by omega)).mono ?_
    rintro r _ ⟨rfl, rfl⟩
    rw [decide_eq_false hn]
    simp -implicitDefEqProofs (disch := omega) only [Nat.reduceEqDiff, List.map_cons, List.map_nil, Option.map_some, Option.map_none, List.nil_append, ↓reduceIte, vcu0, vcu1, vcu2, vcu3, vcu4, vcu5, vcu6, vcu7, vcu8, vcu9, vcu10, ↓vcd0, ↓vcd1, ↓vcd2, opK_some]
    refine (alive_at _).mono ?_
    rintro r _ ⟨rfl, rfl⟩
    simp -implicitDefEqProofs (disch := omega) only [Nat.reduceEqDiff, List.map_cons, List.map_nil, Option.map_some, Option.map_none, List.nil_append, ↓reduceIte, vcu0, vcu1, vcu2, vcu3, vcu4, vcu5, vcu6, vcu7, vcu8, vcu9, vcu10, ↓vcd0, ↓vcd1, ↓vcd2, opK_some]
    refine fin_one Try.results4 ?_
    simp -implicitDefEqProofs (disch := omega) only [Nat.reduceEqDiff, List.map_cons, List.map_nil, Option.map_some, Option.map_none, List.nil_append, ↓reduceIte, vcu0, vcu1, vcu2, vcu3, vcu4, vcu5, vcu6, vcu7, vcu8, vcu9, vcu10, ↓vcd0, ↓vcd1, ↓vcd2]
  · have hOK := valid_all back_all hV
    unfold backOK at hOK
    simp only [Bool.and_eq_true, beq_iff_eq] at hOK
    have h6 := hV.2
    have hVi := valid_inv hV
    have hil := inv_length ps ps.length
    have hq1 : τ1 q = some ⟨ints .i64 ps, false⟩ := by rw [hτ1]; exact put_other hq hg
    have hi1 : τ1 g = some ⟨ints .i64 (inv ps ps.length), false⟩ := by rw [hτ1]; exact AHeap.upd_same _ _ _
    clear hτ1
    simp -implicitDefEqProofs (disch := omega) only [Nat.reduceEqDiff, List.map_cons, List.map_nil, Option.map_some, Option.map_none, List.nil_append, ↓reduceIte, vcu0, vcu1, vcu2, vcu3, vcu4, vcu5, vcu6, vcu7, vcu8, vcu9, vcu10, ↓vcd0, ↓vcd1, ↓vcd2, opK_some]
    refine (specBack_at τ1 q 0 ps (intsAt_own hq1) (by omega)).mono ?_
    rintro r τ2 ⟨g2, ys, hys, hg2, rfl, hτ2⟩
    rw [if_pos hV] at hys
    subst hys
    have hq2 : τ2 q = some ⟨ints .i64 ps, false⟩ := by rw [hτ2]; exact put_other hq1 hg2
    have hi2 : τ2 g = some ⟨ints .i64 (inv ps ps.length), false⟩ := by rw [hτ2]; exact put_other hi1 hg2
    have hy2 : τ2 g2 = some ⟨ints .i64 (inv ps ps.length), false⟩ := by rw [hτ2]; exact AHeap.upd_same _ _ _
    clear hτ2
    simp -implicitDefEqProofs (disch := omega) only [Nat.reduceEqDiff, List.map_cons, List.map_nil, Option.map_some, Option.map_none, List.nil_append, ↓reduceIte, vcu0, vcu1, vcu2, vcu3, vcu4, vcu5, vcu6, vcu7, vcu8, vcu9, vcu10, ↓vcd0, ↓vcd1, ↓vcd2, opK_some]
    have hsame := same_at (w0 := w0) τ2 g 0 g2 0 (inv ps ps.length) (inv ps ps.length) (intsAt_own hi2) (intsAt_own hy2) (by omega) (by omega)
    rw [hil] at hsame ⊢
    refine hsame.mono ?_
    rintro r _ ⟨rfl, rfl⟩
    simp -implicitDefEqProofs (disch := omega) only [Nat.reduceEqDiff, List.map_cons, List.map_nil, Option.map_some, Option.map_none, List.nil_append, ↓reduceIte, vcu0, vcu1, vcu2, vcu3, vcu4, vcu5, vcu6, vcu7, vcu8, vcu9, vcu10, ↓vcd0, ↓vcd1, ↓vcd2, opK_some, eq_self]
    refine (specValid_at _ q 0 ps (intsAt_own hq2) (by omega)).mono ?_
    rintro r _ ⟨rfl, rfl⟩
    rw [decide_eq_true hV]
    simp -implicitDefEqProofs (disch := omega) only [Nat.reduceEqDiff, List.map_cons, List.map_nil, Option.map_some, Option.map_none, List.nil_append, ↓reduceIte, vcu0, vcu1, vcu2, vcu3, vcu4, vcu5, vcu6, vcu7, vcu8, vcu9, vcu10, ↓vcd0, ↓vcd1, ↓vcd2, opK_some]
    have hthn := implThen_at (w0 := w0) _ q 0 g 0 ps (inv ps ps.length) (intsAt_own hq2) (intsAt_own hi2) (by omega) (by omega)
    rw [hil] at hthn
    refine hthn.mono ?_
    rintro r τ3 (⟨hn, _⟩ | ⟨_, g3, hg3, rfl, hτ3⟩)
    · exact absurd ⟨hil.symm, hV, hVi⟩ hn
    rw [hOK.2] at hτ3
    have hq3 : τ3 q = some ⟨ints .i64 ps, false⟩ := by rw [hτ3]; exact put_other hq2 hg3
    have hi3 : τ3 g = some ⟨ints .i64 (inv ps ps.length), false⟩ := by rw [hτ3]; exact put_other hi2 hg3
    have hb3 : τ3 g3 = some ⟨ints .i64 ((List.range ps.length).map fun (i : Nat) => (i : Int)), false⟩ := by rw [hτ3]; exact AHeap.upd_same _ _ _
    clear hτ3
    simp -implicitDefEqProofs (disch := omega) only [Nat.reduceEqDiff, List.map_cons, List.map_nil, Option.map_some, Option.map_none, List.nil_append, ↓reduceIte, vcu0, vcu1, vcu2, vcu3, vcu4, vcu5, vcu6, vcu7, vcu8, vcu9, vcu10, ↓vcd0, ↓vcd1, ↓vcd2, opK_some]
    refine vc_loop_c mixed (by kernel_rfl) [3, 4, 5] (fun m a σ2 => ∃ i : Nat, m + i = ps.length ∧ a 6 = .int .i64 i ∧ σ2 = τ3) ps.length ⟨0, by simp, rfl, rfl⟩ ?_
    rintro m a σ2 hc ⟨i, hi, h6', rfl⟩
    simp -implicitDefEqProofs (disch := omega) only [Nat.reduceEqDiff, List.map_cons, List.map_nil, Option.map_some, Option.map_none, List.nil_append, ↓reduceIte, vcu0, vcu1, vcu2, vcu3, vcu4, vcu5, vcu6, vcu7, vcu8, vcu9, vcu10, ↓vcd0, ↓vcd1, ↓vcd2] at hc
    obtain ⟨h3, h4, h5, -⟩ := hc
    by_cases hlt : i < ps.length
    · have hx := own_at hb3 (i := i) (by simpa using hlt)
      have ex : ((List.range ps.length).map fun (i : Nat) => (i : Int)).getD i 0 = i := by simp [List.getD, hlt]
      rw [ex] at hx
      simp -implicitDefEqProofs (disch := omega) only [Nat.reduceEqDiff, List.map_cons, List.map_nil, Option.map_some, Option.map_none, List.nil_append, ↓reduceIte, vcu0, vcu1, vcu2, vcu3, vcu4, vcu5, vcu6, vcu7, vcu8, vcu9, vcu10, ↓vcd0, ↓vcd1, ↓vcd2, h3, h4, h5, h6', hx, ne_eq, not_true_eq_false]
      exact ⟨⟨trivial, trivial, trivial, trivial⟩, m - 1, by omega, i + 1, by omega, by simp, trivial⟩
    · simp -implicitDefEqProofs (disch := omega) only [Nat.reduceEqDiff, List.map_cons, List.map_nil, Option.map_some, Option.map_none, List.nil_append, ↓reduceIte, vcu0, vcu1, vcu2, vcu3, vcu4, vcu5, vcu6, vcu7, vcu8, vcu9, vcu10, ↓vcd0, ↓vcd1, ↓vcd2, h3, h4, h5, h6']
      have hbk := implBack_at (w0 := w0) _ g 0 (inv ps ps.length) (intsAt_own hi3) (by omega)
      rw [hOK.1, hil] at hbk
      refine hbk.mono ?_
      rintro r τ4 (⟨hn, _⟩ | ⟨_, g4, hg4, rfl, hτ4⟩)
      · exact absurd hVi hn
      have hq4 : τ4 q = some ⟨ints .i64 ps, false⟩ := by rw [hτ4]; exact put_other hq3 hg4
      have hb4 : τ4 g4 = some ⟨ints .i64 ps, false⟩ := by rw [hτ4]; exact AHeap.upd_same _ _ _
      simp -implicitDefEqProofs (disch := omega) only [Nat.reduceEqDiff, List.map_cons, List.map_nil, Option.map_some, Option.map_none, List.nil_append, ↓reduceIte, vcu0, vcu1, vcu2, vcu3, vcu4, vcu5, vcu6, vcu7, vcu8, vcu9, vcu10, ↓vcd0, ↓vcd1, ↓vcd2, opK_some, h3]
      refine (same_at τ4 g4 0 q 0 ps ps (intsAt_own hb4) (intsAt_own hq4) (by omega) (by omega)).mono ?_
      rintro r _ ⟨rfl, rfl⟩
      simp -implicitDefEqProofs (disch := omega) only [Nat.reduceEqDiff, List.map_cons, List.map_nil, Option.map_some, Option.map_none, List.nil_append, ↓reduceIte, vcu0, vcu1, vcu2, vcu3, vcu4, vcu5, vcu6, vcu7, vcu8, vcu9, vcu10, ↓vcd0, ↓vcd1, ↓vcd2, opK_some, eq_self, h3, h5]
      refine fin_one Try.results4 ?_
      simp -implicitDefEqProofs (disch := omega) only [Nat.reduceEqDiff, List.map_cons, List.map_nil, Option.map_some, Option.map_none, List.nil_append, ↓reduceIte, vcu0, vcu1, vcu2, vcu3, vcu4, vcu5, vcu6, vcu7, vcu8, vcu9, vcu10, ↓vcd0, ↓vcd1, ↓vcd2]
end Go.Proofs.Ytdgbaglhhhbbhaa

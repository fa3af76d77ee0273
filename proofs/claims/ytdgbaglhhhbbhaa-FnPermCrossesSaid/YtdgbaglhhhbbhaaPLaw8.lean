/- FnPermCrosses answers true for every code: the walk. -/
import Derived.Test.YtdgbaglhhhbbhaaPq
set_option linter.unusedSimpArgs false
set_option linter.unusedVariables false
namespace Go.Proofs.Ytdgbaglhhhbbhaa
open Go Go.Abs Go.RowKit
variable {w0 : World}

def crossF (xs : List Int) : Nat := crossI xs xs.length
def crossOK (xs : List Int) : Bool :=
  (List.range (xs.length - 1)).all (fun a => (crossF (swp xs a (a + 1)) + 1 == crossF xs) || (crossF (swp xs a (a + 1)) == crossF xs + 1)) && (((crossF xs : Int) % 2 == swapF xs % 2) && (crossF (inv xs xs.length) == crossF xs))
theorem crossOK_swp {xs : List Int} (h : crossOK xs = true) {a : Nat} (ha : a + 1 < xs.length) : crossF (swp xs a (a + 1)) + 1 = crossF xs ∨ crossF (swp xs a (a + 1)) = crossF xs + 1 := by
  unfold crossOK at h
  rw [Bool.and_eq_true] at h
  have h1 := List.all_eq_true.1 h.1 a (by simp; omega)
  simpa using h1
theorem crossOK_end {xs : List Int} (h : crossOK xs = true) : (crossF xs : Int) % 2 = swapF xs % 2 ∧ crossF (inv xs xs.length) = crossF xs := by
  unfold crossOK at h
  rw [Bool.and_eq_true, Bool.and_eq_true] at h
  simpa using h.2

theorem law8 (hall : allV.all crossOK = true) (σ : AHeap) (v : Value) (bs : List Int) (hv : Ints .u8 σ v bs) (hm : bs.length ≤ maxLen) (hw : ∀ z ∈ bs, (Lit.int .u8 z).wf = true) :
    ACall Try.prog w0 8 [v] σ fun r _ => r = .bool true := by
  unfold maxLen at hm
  refine ACall.ints_arg (pre := []) (by kernel_rfl) hv fun σ1 h o hs hg => ?_
  clear hv hs σ v
  have hb := bytes_of hw
  refine acall_go mixed Try.func8 rfl good8 ?_
  by_cases hbig : 1048576 < bs.length
  · simp -implicitDefEqProofs (disch := omega) only [Nat.reduceEqDiff, List.map_cons, List.map_nil, Option.map_some, Option.map_none, List.nil_append, ↓reduceIte, vcu0, vcu1, vcu2, vcu3, vcu4, vcu5, vcu6, vcu7, vcu8, vcu9, vcu10, ↓vcd0, ↓vcd1, ↓vcd2]
    refine fin_one Try.results8 ?_
    simp -implicitDefEqProofs (disch := omega) only [Nat.reduceEqDiff, List.map_cons, List.map_nil, Option.map_some, Option.map_none, List.nil_append, ↓reduceIte, vcu0, vcu1, vcu2, vcu3, vcu4, vcu5, vcu6, vcu7, vcu8, vcu9, vcu10, ↓vcd0, ↓vcd1, ↓vcd2]
  have hl : bs.length ≤ 1048576 := by omega
  simp -implicitDefEqProofs (disch := omega) only [Nat.reduceEqDiff, List.map_cons, List.map_nil, Option.map_some, Option.map_none, List.nil_append, ↓reduceIte, vcu0, vcu1, vcu2, vcu3, vcu4, vcu5, vcu6, vcu7, vcu8, vcu9, vcu10, ↓vcd0, ↓vcd1, ↓vcd2]
  refine (drawCrosses_at σ1 h o bs hg hl hb).mono ?_
  rintro r τ ⟨q, ps, rfl, h7, hs, hq, hqf⟩
  simp -implicitDefEqProofs (disch := omega) only [Nat.reduceEqDiff, List.map_cons, List.map_nil, Option.map_some, Option.map_none, List.nil_append, ↓reduceIte, vcu0, vcu1, vcu2, vcu3, vcu4, vcu5, vcu6, vcu7, vcu8, vcu9, vcu10, ↓vcd0, ↓vcd1, ↓vcd2, opK_some]
  refine (implCross_at τ q 0 ps (intsAt_own hq) (by omega)).mono ?_
  rintro r _ ⟨rfl, rfl⟩
  simp -implicitDefEqProofs (disch := omega) only [Nat.reduceEqDiff, List.map_cons, List.map_nil, Option.map_some, Option.map_none, List.nil_append, ↓reduceIte, vcu0, vcu1, vcu2, vcu3, vcu4, vcu5, vcu6, vcu7, vcu8, vcu9, vcu10, ↓vcd0, ↓vcd1, ↓vcd2, opK_some]
  refine (specCross_at _ q 0 ps (intsAt_own hq) (by omega)).mono ?_
  rintro r τ' ⟨rfl, rfl⟩
  by_cases hV : Valid ps
  · have hOK := valid_all hall hV
    have h6 := hV.2
    have hF0 : crossF ps ≤ 36 := by unfold crossF; have := crossI_le ps ps.length; have : ps.length * ps.length ≤ 6 * 6 := Nat.mul_le_mul h6 h6; omega
    have hend := crossOK_end hOK
    have ec : crossV ps = (crossF ps : Int) := by unfold crossV crossF; rw [if_pos hV]
    rw [if_pos hV, ec, show crossI ps ps.length = crossF ps from rfl]
    simp -implicitDefEqProofs (disch := omega) only [Nat.reduceEqDiff, List.map_cons, List.map_nil, Option.map_some, Option.map_none, List.nil_append, ↓reduceIte, vcu0, vcu1, vcu2, vcu3, vcu4, vcu5, vcu6, vcu7, vcu8, vcu9, vcu10, ↓vcd0, ↓vcd1, ↓vcd2, opK_some]
    refine vc_loop_c mixed (by kernel_rfl) [3, 4] (fun m a σ2 => ∃ i : Nat, m + i = ps.length ∧ a 5 = .int .i64 (i + 1 : Nat) ∧ σ2 q = some ⟨ints .i64 ps, false⟩) ps.length ⟨0, by simp, rfl, hq⟩ ?_
    clear hq hqf hs
    rintro m a σ2 hc ⟨i, hi, h5, hq⟩
    simp -implicitDefEqProofs (disch := omega) only [Nat.reduceEqDiff, List.map_cons, List.map_nil, Option.map_some, Option.map_none, List.nil_append, ↓reduceIte, vcu0, vcu1, vcu2, vcu3, vcu4, vcu5, vcu6, vcu7, vcu8, vcu9, vcu10, ↓vcd0, ↓vcd1, ↓vcd2] at hc
    obtain ⟨h3, h4, -⟩ := hc
    by_cases hlt : i + 1 < ps.length
    · have hsw := crossOK_swp hOK hlt
      have hVs := valid_swp hV (show i < ps.length by omega) hlt
      have e1 : ((i + 1 : Nat) : Int) - 1 = (i : Nat) := by omega
      simp -implicitDefEqProofs (disch := omega) only [Nat.reduceEqDiff, List.map_cons, List.map_nil, Option.map_some, Option.map_none, List.nil_append, ↓reduceIte, vcu0, vcu1, vcu2, vcu3, vcu4, vcu5, vcu6, vcu7, vcu8, vcu9, vcu10, ↓vcd0, ↓vcd1, ↓vcd2, h3, h4, h5, e1]
      refine (swapped_at σ2 q 0 ps i (i + 1) hq h7 (by omega) hlt).mono ?_
      rintro r σ4 ⟨g, hg4, rfl, hs4, hg5⟩
      have hq4 := hs4 q _ hq
      have hc := implCross_at (w0 := w0) σ4 g 0 (swp ps i (i + 1)) (intsAt_own hg5) (by rw [swp_length]; omega)
      rw [if_pos hVs, show crossI (swp ps i (i + 1)) (swp ps i (i + 1)).length = crossF (swp ps i (i + 1)) from rfl, swp_length] at hc
      generalize crossF (swp ps i (i + 1)) = M at hsw hc
      simp -implicitDefEqProofs (disch := omega) only [Nat.reduceEqDiff, List.map_cons, List.map_nil, Option.map_some, Option.map_none, List.nil_append, ↓reduceIte, vcu0, vcu1, vcu2, vcu3, vcu4, vcu5, vcu6, vcu7, vcu8, vcu9, vcu10, ↓vcd0, ↓vcd1, ↓vcd2, opK_some]
      refine hc.mono ?_
      rintro r _ ⟨rfl, rfl⟩
      rcases hsw with hM | hM
      · simp -implicitDefEqProofs (disch := omega) only [Nat.reduceEqDiff, List.map_cons, List.map_nil, Option.map_some, Option.map_none, List.nil_append, ↓reduceIte, vcu0, vcu1, vcu2, vcu3, vcu4, vcu5, vcu6, vcu7, vcu8, vcu9, vcu10, ↓vcd0, ↓vcd1, ↓vcd2, opK_some, h3, h4, h5]
        exact ⟨⟨trivial, trivial, trivial⟩, m - 1, by omega, i + 1, by omega, by simp, hq4⟩
      · simp -implicitDefEqProofs (disch := omega) only [Nat.reduceEqDiff, List.map_cons, List.map_nil, Option.map_some, Option.map_none, List.nil_append, ↓reduceIte, vcu0, vcu1, vcu2, vcu3, vcu4, vcu5, vcu6, vcu7, vcu8, vcu9, vcu10, ↓vcd0, ↓vcd1, ↓vcd2, opK_some, h3, h4, h5]
        exact ⟨⟨trivial, trivial, trivial⟩, m - 1, by omega, i + 1, by omega, by simp, hq4⟩
    · simp -implicitDefEqProofs (disch := omega) only [Nat.reduceEqDiff, List.map_cons, List.map_nil, Option.map_some, Option.map_none, List.nil_append, ↓reduceIte, vcu0, vcu1, vcu2, vcu3, vcu4, vcu5, vcu6, vcu7, vcu8, vcu9, vcu10, ↓vcd0, ↓vcd1, ↓vcd2, h3, h4, h5]
      refine (implSwap_at _ q 0 ps (intsAt_own hq) (by omega)).mono ?_
      rintro r _ ⟨rfl, rfl⟩
      have hsF : 0 ≤ swapF ps ∧ swapF ps ≤ 6 := by unfold swapF; have := cyc_le ps ps.length; omega
      rw [swapV_eq hV]
      simp -implicitDefEqProofs (disch := omega) only [Nat.reduceEqDiff, List.map_cons, List.map_nil, Option.map_some, Option.map_none, List.nil_append, ↓reduceIte, vcu0, vcu1, vcu2, vcu3, vcu4, vcu5, vcu6, vcu7, vcu8, vcu9, vcu10, ↓vcd0, ↓vcd1, ↓vcd2, opK_some, h3, h4, hend.1]
      refine (implBack_at _ q 0 ps (intsAt_own hq) (by omega)).mono ?_
      rintro r σ3 (⟨hn, _⟩ | ⟨_, g, hg, rfl, hσ3⟩)
      · exact absurd hV hn
      have hgv : σ3 g = some ⟨ints .i64 (inv ps ps.length), false⟩ := by rw [hσ3]; exact AHeap.upd_same _ _ _
      have hc := implCross_at (w0 := w0) σ3 g 0 (inv ps ps.length) (intsAt_own hgv) (by rw [inv_length]; omega)
      rw [if_pos (valid_inv hV), show crossI (inv ps ps.length) (inv ps ps.length).length = crossF (inv ps ps.length) from rfl, inv_length, hend.2] at hc
      simp -implicitDefEqProofs (disch := omega) only [Nat.reduceEqDiff, List.map_cons, List.map_nil, Option.map_some, Option.map_none, List.nil_append, ↓reduceIte, vcu0, vcu1, vcu2, vcu3, vcu4, vcu5, vcu6, vcu7, vcu8, vcu9, vcu10, ↓vcd0, ↓vcd1, ↓vcd2, opK_some]
      refine hc.mono ?_
      rintro r _ ⟨rfl, rfl⟩
      simp -implicitDefEqProofs (disch := omega) only [Nat.reduceEqDiff, List.map_cons, List.map_nil, Option.map_some, Option.map_none, List.nil_append, ↓reduceIte, vcu0, vcu1, vcu2, vcu3, vcu4, vcu5, vcu6, vcu7, vcu8, vcu9, vcu10, ↓vcd0, ↓vcd1, ↓vcd2, opK_some, h3, h4]
      refine fin_one Try.results8 ?_
      simp -implicitDefEqProofs (disch := omega) only [Nat.reduceEqDiff, List.map_cons, List.map_nil, Option.map_some, Option.map_none, List.nil_append, ↓reduceIte, vcu0, vcu1, vcu2, vcu3, vcu4, vcu5, vcu6, vcu7, vcu8, vcu9, vcu10, ↓vcd0, ↓vcd1, ↓vcd2]
  · have e : crossV ps = -1 := by unfold crossV; rw [if_neg hV]
    rw [if_neg hV, e]
    simp -implicitDefEqProofs (disch := omega) only [Nat.reduceEqDiff, List.map_cons, List.map_nil, Option.map_some, Option.map_none, List.nil_append, ↓reduceIte, vcu0, vcu1, vcu2, vcu3, vcu4, vcu5, vcu6, vcu7, vcu8, vcu9, vcu10, ↓vcd0, ↓vcd1, ↓vcd2, opK_some, decide_true]
    refine (alive_at _).mono ?_
    rintro r _ ⟨rfl, rfl⟩
    simp -implicitDefEqProofs (disch := omega) only [Nat.reduceEqDiff, List.map_cons, List.map_nil, Option.map_some, Option.map_none, List.nil_append, ↓reduceIte, vcu0, vcu1, vcu2, vcu3, vcu4, vcu5, vcu6, vcu7, vcu8, vcu9, vcu10, ↓vcd0, ↓vcd1, ↓vcd2, opK_some]
    refine fin_one Try.results8 ?_
    simp -implicitDefEqProofs (disch := omega) only [Nat.reduceEqDiff, List.map_cons, List.map_nil, Option.map_some, Option.map_none, List.nil_append, ↓reduceIte, vcu0, vcu1, vcu2, vcu3, vcu4, vcu5, vcu6, vcu7, vcu8, vcu9, vcu10, ↓vcd0, ↓vcd1, ↓vcd2]
end Go.Proofs.Ytdgbaglhhhbbhaa

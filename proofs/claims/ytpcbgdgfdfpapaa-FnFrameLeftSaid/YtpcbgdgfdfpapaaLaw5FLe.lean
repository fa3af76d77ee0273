/- FnFrameLeft answers true for every code. -/
import Derived.Test.YtpcbgdgfdfpapaaLaw5FOk
set_option linter.unusedSimpArgs false
set_option linter.unusedVariables false
namespace Go.Proofs.Ytpcbgdgfdfpapaa
open Go Go.Abs Go.RowKit Go.Frames
variable {w0 : World}

theorem frameL_take (T F : List (List Int)) : ∀ m, m ≤ F.length → frameL T (F.take m) m = frameL T F m := by
  have : ∀ M, ∀ m, m ≤ M → M ≤ F.length → frameL T (F.take M) m = frameL T F m := by
    intro M m
    induction m with
    | zero => intro _ _; rfl
    | succ m ih =>
      intro h1 h2
      have e : (F.take M).getD m [] = F.getD m [] := by simp [List.getD, List.getElem?_take, show m < M by omega]
      rw [frameL, frameL, ih (by omega) h2, e]
  exact fun m hm => this m m (Nat.le_refl _) hm
theorem frameL_le {T F : List (List Int)} (hT : TV T) (m : Nat) {a b : Nat} (ha : a < T.length) (hb : b < T.length) : -(m : Int) ≤ en (frameL T F m) a b ∧ en (frameL T F m) a b ≤ 6 := by
  rw [en_frameL (tv_sq hT) F m a b ha hb]
  have h1 := sent_le (fS F) a b m
  have h2 := hT.at ha hb
  unfold en
  omega
/-- one slot fewer leaves as much, or one more -/
theorem left_pair {T : List (List Int)} (hT : TV T) (F : List (List Int)) {a b : Nat} (ha : a < T.length) (hb : b < T.length) :
    en (frameL T F F.length) a b ≤ en (frameL T F (F.length - 1)) a b ∧ en (frameL T F (F.length - 1)) a b ≤ en (frameL T F F.length) a b + 1 := by
  rcases Nat.eq_zero_or_pos F.length with e | e
  · rw [e]; simp only [Nat.zero_sub]; omega
  · have := frameL_step (tv_sq hT) F (F.length - 1) a b ha hb
    rw [show F.length - 1 + 1 = F.length by omega] at this
    exact this

theorem law4 (σ : AHeap) (v : Value) (bs : List Int) (hv : Ints .u8 σ v bs) (hm : bs.length ≤ maxLen) (hw : ∀ z ∈ bs, (Lit.int .u8 z).wf = true) :
    ACall Try.prog w0 4 [v] σ fun r _ => r = .bool true := by
  unfold maxLen at hm
  refine ACall.ints_arg (pre := []) (by kernel_rfl) hv fun σ1 h o hs hg => ?_
  clear hv hs σ v
  have hb := bytes_of hw
  refine acall_go mixed Try.func4 rfl good4 fun pr => ?_
  by_cases hbig : 1048576 < bs.length
  · simp -implicitDefEqProofs (disch := omega) only [List.any_cons, List.any_nil, Nat.reduceEqDiff, List.map_cons, List.map_nil, Option.map_some, Option.map_none, List.nil_append, ↓reduceIte, vcu, ↓vcd]
    refine fin_one Try.results4 ?_
    simp -implicitDefEqProofs (disch := omega) only [List.any_cons, List.any_nil, Nat.reduceEqDiff, List.map_cons, List.map_nil, Option.map_some, Option.map_none, List.nil_append, ↓reduceIte, vcu, ↓vcd]
  have hl : bs.length ≤ 1048576 := by omega
  simp -implicitDefEqProofs (disch := omega) only [List.any_cons, List.any_nil, Nat.reduceEqDiff, List.map_cons, List.map_nil, Option.map_some, Option.map_none, List.nil_append, ↓reduceIte, vcu, ↓vcd]
  refine (drawFrameLeft_at σ1 h o bs hg hl hb).mono ?_
  rintro r τ ⟨g2, q, T, g3, q3, F, rfl, hT, hF, t1, t2, f1, f2, hs⟩
  have f3 : ∀ i, i < F.length → (F.getD i []).length ≤ 1048576 := fun i hi => by have := f2 i hi; omega
  have vT : RowsV τ (.slice (some ⟨g2, 0, none⟩) T.length 1) T := .of hT.rows rfl
  have vF : RowsV τ (.slice (some ⟨g3, 0, none⟩) F.length 1) F := .of hF.rows rfl
  clear hg hs hl hb
  simp -implicitDefEqProofs (disch := omega) only [List.any_cons, List.any_nil, Nat.reduceEqDiff, List.map_cons, List.map_nil, Option.map_some, Option.map_none, List.nil_append, ↓reduceIte, vcu, ↓vcd, opK_some, List.getElem?_toArray, List.getElem?_cons_zero, List.getElem?_cons_succ]
  refine (implLeft_calls w0 τ _ _ T F vT (by omega) vF (by omega) f3).mono ?_
  rintro v τ1 ⟨s1, hL⟩
  have vL := hL.rowsV
  clear hL
  simp -implicitDefEqProofs (disch := omega) only [List.any_cons, List.any_nil, Nat.reduceEqDiff, List.map_cons, List.map_nil, Option.map_some, Option.map_none, List.nil_append, ↓reduceIte, vcu, ↓vcd, opK_some]
  refine (specLeft_at τ1 g2 0 g3 0 T F (hT.rows.sub s1) (by omega) (hF.rows.sub s1) (by omega) f3).mono ?_
  rintro r τ2 ⟨s2, gw, qw, rfl, hW⟩
  have s12 := s1.trans s2
  have hLs : (leftV T F).length ≤ 6 ∧ ∀ i, i < (leftV T F).length → ((leftV T F).getD i []).length ≤ 6 := by
    rw [leftV_len]
    refine ⟨leftB_le T, fun i hi => ?_⟩
    have h1 := frameL_sq (leftB_sq T) F F.length
    have h2 : ((leftV T F).getD i []).length = (leftB T).length := h1.2 i hi
    rw [h2]; exact leftB_le T
  simp -implicitDefEqProofs (disch := omega) only [List.any_cons, List.any_nil, Nat.reduceEqDiff, List.map_cons, List.map_nil, Option.map_some, Option.map_none, List.nil_append, ↓reduceIte, vcu, ↓vcd, opK_some]
  refine (sameL_calls τ2 v _ (leftV T F) (vL.sub s2) (.of hW.rows rfl) (by omega) (fun i hi => by have := hLs.2 i hi; omega)).mono ?_
  rintro r _ ⟨rfl, rfl⟩
  rename_i τ2
  simp -implicitDefEqProofs (disch := omega) only [List.any_cons, List.any_nil, Nat.reduceEqDiff, List.map_cons, List.map_nil, Option.map_some, Option.map_none, List.nil_append, ↓reduceIte, vcu, ↓vcd, opK_some, Bool.not_true]
  refine (specTV_at τ2 g2 0 T (hT.rows.sub s12) (by omega)).mono ?_
  rintro r _ ⟨rfl, rfl⟩
  rename_i τ2
  obtain ⟨vb, vz, rfl⟩ := vL.len
  by_cases hTV : TV T
  case neg =>
    rw [decide_eq_false hTV, leftV_not hTV]
    simp -implicitDefEqProofs (disch := omega) only [List.any_cons, List.any_nil, Nat.reduceEqDiff, List.map_cons, List.map_nil, Option.map_some, Option.map_none, List.nil_append, ↓reduceIte, vcu, ↓vcd, opK_some, Bool.not_false, List.length_nil, decide_true]
    refine (alive_at _).mono ?_
    rintro r _ ⟨rfl, rfl⟩
    simp -implicitDefEqProofs (disch := omega) only [List.any_cons, List.any_nil, Nat.reduceEqDiff, List.map_cons, List.map_nil, Option.map_some, Option.map_none, List.nil_append, ↓reduceIte, vcu, ↓vcd, opK_some]
    refine fin_one Try.results4 ?_
    simp -implicitDefEqProofs (disch := omega) only [List.any_cons, List.any_nil, Nat.reduceEqDiff, List.map_cons, List.map_nil, Option.map_some, Option.map_none, List.nil_append, ↓reduceIte, vcu, ↓vcd]
  rw [decide_eq_true hTV]
  have hn : (leftV T F).length = T.length := by rw [leftV_tv hTV]; exact (frameL_sq (tv_sq hTV) F _).1
  have hmx : max ((F.length : Int) - 1) 0 = ((F.length - 1 : Nat) : Int) := by omega
  rw [leftV_tv hTV] at vL hn ⊢
  rw [hn] at vL ⊢
  have h6 := hTV.1
  simp -implicitDefEqProofs (disch := omega) only [List.any_cons, List.any_nil, Nat.reduceEqDiff, List.map_cons, List.map_nil, Option.map_some, Option.map_none, List.nil_append, ↓reduceIte, vcu, ↓vcd, opK_some, Bool.not_true, hmx]
  have hFt : RowsV τ2 (.slice (some ⟨g3, 0, none⟩) (F.length - 1) 1) (F.take (F.length - 1)) := .of ((hF.rows.sub s12).take _) (by simp)
  refine (implLeft_calls w0 τ2 _ _ T (F.take (F.length - 1)) (vT.sub s12) (by omega) hFt (by simp; omega) (fun i hi => by
    simp only [List.length_take] at hi
    have e : (F.take (F.length - 1)).getD i [] = F.getD i [] := by simp [List.getD, List.getElem?_take, show i < F.length - 1 by omega, show i < F.length by omega]
    rw [e]; exact f3 i (by omega))).mono ?_
  rintro u τ3 ⟨s3, hB⟩
  have vB := hB.rowsV
  rw [leftV_tv hTV, show (F.take (F.length - 1)).length = F.length - 1 by simp, frameL_take T F _ (by omega)] at vB
  clear hB hFt
  have hpair := fun a b => left_pair (a := a) (b := b) hTV F
  have hle := fun a b => frameL_le (F := F) (a := a) (b := b) hTV F.length
  have hle2 := fun a b => frameL_le (F := F) (a := a) (b := b) hTV (F.length - 1)
  have hsq := frameL_sq (tv_sq hTV) F F.length
  have hsq2 := frameL_sq (tv_sq hTV) F (F.length - 1)
  have vL3 := (vL.sub s2).sub s3
  have s123 := s12.trans s3
  generalize frameL T F F.length = L at *
  generalize frameL T F (F.length - 1) = M at *
  obtain ⟨ub, uz, rfl⟩ := vB.len
  rw [hsq2.1] at vB ⊢
  clear vL hW
  simp -implicitDefEqProofs (disch := omega) only [List.any_cons, List.any_nil, Nat.reduceEqDiff, List.map_cons, List.map_nil, Option.map_some, Option.map_none, List.nil_append, ↓reduceIte, vcu, ↓vcd, opK_some, ne_eq, not_true_eq_false, decide_false]
  refine vc_loop_c mixed (by kernel_rfl) [3, 5, 6] (fun m a σ' => ∃ k : Nat, m + k = T.length ∧ a 7 = .int .i64 k ∧ σ' = τ3) T.length ⟨0, by simp, rfl, rfl⟩ ?_
  rintro m a σ' hc ⟨k, hk, h7, rfl⟩
  simp -implicitDefEqProofs (disch := omega) only [List.any_cons, List.any_nil, Nat.reduceEqDiff, List.map_cons, List.map_nil, Option.map_some, Option.map_none, List.nil_append, ↓reduceIte, vcu, ↓vcd] at hc
  obtain ⟨h3, h5, h6', -⟩ := hc
  by_cases hlt : k < T.length
  · obtain ⟨lp, lo, rfl, rfl, -, hR⟩ := vL3.at (i := k) (by rw [hn]; exact hlt)
    obtain ⟨mp, mo, rfl, rfl, -, hR2⟩ := vB.at (i := k) (by rw [hsq2.1]; exact hlt)
    obtain ⟨w, hx, hi⟩ := hR k (by rw [hn]; exact hlt)
    obtain ⟨w2, hx2, hi2⟩ := hR2 k (by rw [hsq2.1]; exact hlt)
    have hr1 := hsq.2 k hlt
    have hr2 := hsq2.2 k hlt
    have e1 : ∀ j, (L.getD k []).getD j 0 = en L k j := fun j => rfl
    have e2 : ∀ j, (M.getD k []).getD j 0 = en M k j := fun j => rfl
    generalize L.getD k [] = row at hi hr1 e1
    generalize M.getD k [] = row2 at hi2 hr2 e2
    obtain ⟨wb, wz, rfl⟩ := ints_len hi
    obtain ⟨wb2, wz2, rfl⟩ := ints_len hi2
    rw [hr1] at hx
    rw [hr2] at hx2
    simp -implicitDefEqProofs (disch := omega) only [List.any_cons, List.any_nil, Nat.reduceEqDiff, List.map_cons, List.map_nil, Option.map_some, Option.map_none, List.nil_append, ↓reduceIte, vcu, ↓vcd, h3, h5, h6', h7, hx, hx2, ne_eq, not_true_eq_false, decide_false]
    refine vc_loop_c mixed (by kernel_rfl) [3, 5, 6, 7] (fun m2 a2 σ2 => ∃ j : Nat, m2 + j = T.length ∧ a2 8 = .int .i64 j ∧ σ2 = σ') T.length ⟨0, by simp, rfl, rfl⟩ ?_
    rintro m2 a2 σ2 hc2 ⟨j, hj, h8, rfl⟩
    simp -implicitDefEqProofs (disch := omega) only [List.any_cons, List.any_nil, Nat.reduceEqDiff, List.map_cons, List.map_nil, Option.map_some, Option.map_none, List.nil_append, ↓reduceIte, vcu, ↓vcd, h3, h5, h6', h7] at hc2
    obtain ⟨c3, c5, c6, c7, -⟩ := hc2
    by_cases hjl : j < T.length
    · rcases hi with ⟨e, rfl⟩ | ⟨rg, ro, e, hat⟩
      · simp at hr1; omega
      injection e with ea eb ec
      subst ea; subst ec
      rcases hi2 with ⟨e, rfl⟩ | ⟨rg2, ro2, e, hat2⟩
      · simp at hr2; omega
      injection e with ea eb ec
      subst ea; subst ec
      have y1 := hat j (by omega)
      have y2 := hat2 j (by omega)
      rw [e1] at y1
      rw [e2] at y2
      have p1 := hpair k j hlt hjl
      have p2 := hle k j hlt hjl
      have p3 := hle2 k j hlt hjl
      have d1 : decide (en M k j < en L k j) = false := decide_eq_false (by omega)
      have d2 : decide (en M k j > en L k j + 1) = false := decide_eq_false (by omega)
      simp -implicitDefEqProofs (disch := omega) only [List.any_cons, List.any_nil, Nat.reduceEqDiff, List.map_cons, List.map_nil, Option.map_some, Option.map_none, List.nil_append, ↓reduceIte, vcu, ↓vcd, c3, c5, c6, c7, h8, hx, hx2, y1, y2, d1, d2]
      exact ⟨by simp [c3, c5, c6, c7, h3, h5, h6', h7], m2 - 1, by omega, j + 1, by omega, by simp, trivial⟩
    · simp -implicitDefEqProofs (disch := omega) only [List.any_cons, List.any_nil, Nat.reduceEqDiff, List.map_cons, List.map_nil, Option.map_some, Option.map_none, List.nil_append, ↓reduceIte, vcu, ↓vcd, c3, c5, c6, c7, h8, hx]
      exact ⟨by simp [c3, c5, c6, h3, h5, h6'], m - 1, by omega, k + 1, by omega, by simp, trivial⟩
  · simp -implicitDefEqProofs (disch := omega) only [List.any_cons, List.any_nil, Nat.reduceEqDiff, List.map_cons, List.map_nil, Option.map_some, Option.map_none, List.nil_append, ↓reduceIte, vcu, ↓vcd, h3, h5, h6', h7]
    refine (implLeft_calls w0 σ' _ _ T [] (vT.sub s123) (by omega) (.inl ⟨rfl, rfl⟩) (by simp) (fun i hi => absurd hi (by simp))).mono ?_
    rintro u2 τ4 ⟨s4, hB⟩
    have vB2 := hB.rowsV
    have e0 : leftV T [] = T := by rw [leftV_tv hTV]; rfl
    rw [e0] at vB2
    clear hB
    simp -implicitDefEqProofs (disch := omega) only [List.any_cons, List.any_nil, Nat.reduceEqDiff, List.map_cons, List.map_nil, Option.map_some, Option.map_none, List.nil_append, ↓reduceIte, vcu, ↓vcd, opK_some, h3]
    refine (sameL_calls τ4 u2 _ T vB2 ((vT.sub s123).sub s4) (by omega) (fun i hi => by have := t2 i hi; omega)).mono ?_
    rintro r _ ⟨rfl, rfl⟩
    simp -implicitDefEqProofs (disch := omega) only [List.any_cons, List.any_nil, Nat.reduceEqDiff, List.map_cons, List.map_nil, Option.map_some, Option.map_none, List.nil_append, ↓reduceIte, vcu, ↓vcd, opK_some]
    refine fin_one Try.results4 ?_
    simp -implicitDefEqProofs (disch := omega) only [List.any_cons, List.any_nil, Nat.reduceEqDiff, List.map_cons, List.map_nil, Option.map_some, Option.map_none, List.nil_append, ↓reduceIte, vcu, ↓vcd]

open Go.ChangeShapes Go.WideShapes Go.ChangeAt Go.RowKit

set_option maxRecDepth 100000 in
theorem lifted4 (os : Os) (started : os.Started) (H : Type) (enc : TypeId × Value → H) :
    ReturnsInHanded {} Try.checked os 4 .any (Rows.fnFrameLeftSpec.pre6 enc Try.prog Try.f4 Rows.fnFrameLeftRow.domain false) (Rows.fnFrameLeftSpec.post enc Try.prog Try.f4 false true false false) := by
  refine returnsInHanded_of_change (C := Try.checked) own started (by kernel_rfl) Try.func4
    (ChangeSpec.witness6 (enc := enc) (C := Try.checked) false ⟨#[], #[.slice none 0 0], []⟩ 8 (by kernel_rfl) (by kernel_rfl) (by kernel_rfl) (by kernel_rfl)) ?_
  intro W base args ds gs before hval hW _ _
  have hW' := hW
  obtain ⟨p, q, hA, hV, -, -, -⟩ := hW'
  rw [Try.params4] at hA hval
  obtain ⟨v0, vs0, d0, ds0, p0, q0, hargs, rfl, rfl, h0, r0⟩ := trodAll_cons hA
  obtain ⟨rfl, rfl, rfl⟩ := trodAll_nil r0
  obtain ⟨rfl, rfl⟩ := trodVars_none hV
  obtain rfl : args = #[v0] := by cases args; simp_all
  obtain ⟨β0, σ0, a0, zs0, L0, U0, S0, R0, I0, w0, m0⟩ := start_ints Try.underlying22 Try.underlying5 co5 (Start.start W) (hval 0 22 v0 rfl rfl) h0
  refine ((law4 σ0 a0 zs0 (I0) m0 w0).2 noProt β0 W [v0] S0.rel (.cons R0 (.nil _))).mono fun e W' h => ?_
  obtain ⟨β', r, r', σ', -, rfl, hr, hrel, rfl⟩ := h
  cases hr
  exact ⟨_, rfl, law_post laidOut hW rfl rfl (by rw [Try.params4]; intro t ht; simp only [List.mem_cons, List.not_mem_nil, or_false, or_self] at ht; rcases ht with rfl <;> exact ⟨by kernel_rfl, of_decide_eq_true (by kernel_rfl)⟩) rfl Try.underlying4 hrel.below⟩

theorem facts4 : joinedFacts Try.prog 4 Try.f4 Rows.fnFrameLeftSpec Rows.fnFrameLeftRow = true := by
  unfold joinedFacts
  rw [mayE, liftsE, makeE]
  kernel_rfl

theorem proved4 : Rows.FnFrameLeftSaid :=
  OpenClaim.holds_of_wide 4 Try.f4 rfl rfl rfl rfl rfl rfl rfl ⟨rfl, rfl, rfl, rfl, rfl⟩ rfl rfl rfl rfl rfl (by kernel_rfl) Try.func4 facts4 (of_decide_eq_true (by kernel_rfl))
    (by unfold Func.isWrapper; first | (rw [if_pos (by decide +kernel)]; kernel_rfl) | (rw [if_neg (by decide +kernel)]; exact ⟨rfl, rfl⟩))
    (fun os started H enc _ => lifted4 os started H enc)


end Go.Proofs.Ytpcbgdgfdfpapaa

/- FnFrameOk answers true for every code. -/
import Derived.Test.YtpcbgdgfdfpapaaFk
set_option linter.unusedSimpArgs false
set_option linter.unusedVariables false
namespace Go.Proofs.Ytpcbgdgfdfpapaa
open Go Go.Abs Go.RowKit Go.Frames
variable {w0 : World}

theorem RowsV.len {σ : AHeap} {v : Value} {rows : List (List Int)} (h : RowsV σ v rows) : ∃ b z, v = .slice b rows.length z := by
  rcases h with ⟨rfl, rfl⟩ | ⟨h, o, rfl, -⟩
  · exact ⟨none, 0, rfl⟩
  · exact ⟨_, _, rfl⟩
theorem RowsV.at {σ : AHeap} {b : Option Addr} {n z : Nat} {rows : List (List Int)} (h : RowsV σ (.slice b n z) rows) {i : Nat} (hi : i < rows.length) : ∃ h o, b = some ⟨h, o, none⟩ ∧ z = 1 ∧ n = rows.length ∧ RowsAt σ h o rows := by
  rcases h with ⟨-, rfl⟩ | ⟨h, o, e, hr⟩
  · exact absurd hi (by simp)
  · injection e with e1 e2 e3
    exact ⟨h, o, e1, e3, e2, hr⟩
theorem frok_le {T F : List (List Int)} (h : FrOk T F) {a b : Nat} (ha : a < T.length) (hb : b < T.length) : 0 ≤ en (frameL T F F.length) a b ∧ en (frameL T F F.length) a b ≤ 6 := by
  refine ⟨frok_nonneg h ha hb, ?_⟩
  rw [en_frameL h.sq F F.length a b ha hb]
  have h1 := sent_le (fS F) a b F.length
  have h2 := (h.1.at ha hb).2
  unfold en
  omega
theorem allN_le3 {n : Nat} {L : List (List Int)} (hsq : Sq n L) (hb : ∀ a b, a < n → b < n → 0 ≤ en L a b ∧ en L a b ≤ 1000) : ∀ k : Nat, k ≤ n → 0 ≤ allN L k ∧ allN L k ≤ 1000 * n * k
  | 0, _ => by simp [allN]
  | k + 1, hk => by
    have h1 := allN_le3 hsq hb k (by omega)
    have h2 := psum_le2 (m := 0) (xs := L.getD k []) (fun j hj => hb k j (by omega) (by rw [hsq.2 k (by omega)] at hj; exact hj)) _ (Nat.le_refl _)
    rw [hsq.2 k (by omega)] at h2
    rw [allN, hsq.2 k (by omega)]
    have e : (1000 : Int) * n * ((k + 1 : Nat) : Int) = 1000 * n * k + 1000 * n := by rw [Int.natCast_add, Int.mul_add]; simp
    omega

theorem law3 (σ : AHeap) (v : Value) (bs : List Int) (hv : Ints .u8 σ v bs) (hm : bs.length ≤ maxLen) (hw : ∀ z ∈ bs, (Lit.int .u8 z).wf = true) :
    ACall Try.prog w0 3 [v] σ fun r _ => r = .bool true := by
  unfold maxLen at hm
  refine ACall.ints_arg (pre := []) (by kernel_rfl) hv fun σ1 h o hs hg => ?_
  clear hv hs σ v
  have hb := bytes_of hw
  refine acall_go mixed Try.func3 rfl good3 fun pr => ?_
  by_cases hbig : 1048576 < bs.length
  · simp -implicitDefEqProofs (disch := omega) only [List.any_cons, List.any_nil, Nat.reduceEqDiff, List.map_cons, List.map_nil, Option.map_some, Option.map_none, List.nil_append, ↓reduceIte, vcu, ↓vcd]
    refine fin_one Try.results3 ?_
    simp -implicitDefEqProofs (disch := omega) only [List.any_cons, List.any_nil, Nat.reduceEqDiff, List.map_cons, List.map_nil, Option.map_some, Option.map_none, List.nil_append, ↓reduceIte, vcu, ↓vcd]
  have hl : bs.length ≤ 1048576 := by omega
  simp -implicitDefEqProofs (disch := omega) only [List.any_cons, List.any_nil, Nat.reduceEqDiff, List.map_cons, List.map_nil, Option.map_some, Option.map_none, List.nil_append, ↓reduceIte, vcu, ↓vcd]
  refine (drawFrameOk_at σ1 h o bs hg hl hb).mono ?_
  rintro r τ ⟨g2, q, T, g3, q3, F, rfl, hT, hF, t1, t2, f1, f2, hs⟩
  have f3 : ∀ i, i < F.length → (F.getD i []).length ≤ 1048576 := fun i hi => by have := f2 i hi; omega
  have vT : RowsV τ (.slice (some ⟨g2, 0, none⟩) T.length 1) T := .of hT.rows rfl
  have vF : RowsV τ (.slice (some ⟨g3, 0, none⟩) F.length 1) F := .of hF.rows rfl
  clear hg hs hl hb
  simp -implicitDefEqProofs (disch := omega) only [List.any_cons, List.any_nil, Nat.reduceEqDiff, List.map_cons, List.map_nil, Option.map_some, Option.map_none, List.nil_append, ↓reduceIte, vcu, ↓vcd, opK_some, List.getElem?_toArray, List.getElem?_cons_zero, List.getElem?_cons_succ]
  refine (implFrOk_calls w0 τ _ _ T F vT (by omega) vF (by omega) f3).mono ?_
  rintro r τ1 ⟨rfl, s1⟩
  simp -implicitDefEqProofs (disch := omega) only [List.any_cons, List.any_nil, Nat.reduceEqDiff, List.map_cons, List.map_nil, Option.map_some, Option.map_none, List.nil_append, ↓reduceIte, vcu, ↓vcd, opK_some]
  refine (specFrOk_at τ1 g2 0 g3 0 T F (hT.rows.sub s1) (by omega) (hF.rows.sub s1) (by omega) f3).mono ?_
  rintro r τ2 ⟨rfl, s2⟩
  by_cases hOk : FrOk T F
  case neg =>
    rw [decide_eq_false hOk]
    simp -implicitDefEqProofs (disch := omega) only [List.any_cons, List.any_nil, Nat.reduceEqDiff, List.map_cons, List.map_nil, Option.map_some, Option.map_none, List.nil_append, ↓reduceIte, vcu, ↓vcd, opK_some, eq_self, decide_true, beq_self_eq_true, Bool.not_true, Bool.not_false]
    refine (alive_at _).mono ?_
    rintro r _ ⟨rfl, rfl⟩
    simp -implicitDefEqProofs (disch := omega) only [List.any_cons, List.any_nil, Nat.reduceEqDiff, List.map_cons, List.map_nil, Option.map_some, Option.map_none, List.nil_append, ↓reduceIte, vcu, ↓vcd, opK_some]
    refine fin_one Try.results3 ?_
    simp -implicitDefEqProofs (disch := omega) only [List.any_cons, List.any_nil, Nat.reduceEqDiff, List.map_cons, List.map_nil, Option.map_some, Option.map_none, List.nil_append, ↓reduceIte, vcu, ↓vcd]
  rw [decide_eq_true hOk]
  have s12 := s1.trans s2
  simp -implicitDefEqProofs (disch := omega) only [List.any_cons, List.any_nil, Nat.reduceEqDiff, List.map_cons, List.map_nil, Option.map_some, Option.map_none, List.nil_append, ↓reduceIte, vcu, ↓vcd, opK_some, eq_self, decide_true, beq_self_eq_true, Bool.not_true, Bool.not_false]
  refine (implLeft_calls w0 τ2 _ _ T F (vT.sub s12) (by omega) (vF.sub s12) (by omega) f3).mono ?_
  rintro v τ3 ⟨s3, hL⟩
  rw [leftV_tv hOk.1] at hL
  have vL := hL.rowsV
  have hsq := frameL_sq hOk.sq F F.length
  have hall := frok_all hOk
  have hlen := frok_len hOk
  have hnn := allN_nonneg hOk
  have hle := fun a b => frok_le (a := a) (b := b) hOk
  have h6 := hOk.1.1
  have hTall : allV2 T = allN T T.length := if_pos hOk.1
  have hMv : mostV T = most T T.length := if_pos hOk.1
  have hA := allN_le hOk.1 _ (Nat.le_refl _)
  have hM := most_le hOk.1 _ (Nat.le_refl _)
  have hS := sendsF_nonneg F F.length
  have hn := hsq.1
  have hb3 := allN_le3 hsq (fun a b ha hb => by have := hle a b ha hb; omega)
  generalize frameL T F F.length = L at *
  obtain ⟨b, z, rfl⟩ := vL.len
  rw [hn] at vL ⊢
  have s123 := s12.trans s3
  clear hL
  simp -implicitDefEqProofs (disch := omega) only [List.any_cons, List.any_nil, Nat.reduceEqDiff, List.map_cons, List.map_nil, Option.map_some, Option.map_none, List.nil_append, ↓reduceIte, vcu, ↓vcd, opK_some]
  refine vc_loop_c mixed (by kernel_rfl) [3, 4, 6] (fun m a σ' => ∃ k : Nat, m + k = T.length ∧ a 7 = .int .i64 (allN L k) ∧ a 8 = .int .i64 k ∧ σ' = τ3) T.length ⟨0, by simp, rfl, rfl, rfl⟩ ?_
  rintro m a σ' hc ⟨k, hk, h7, h8, rfl⟩
  simp -implicitDefEqProofs (disch := omega) only [List.any_cons, List.any_nil, Nat.reduceEqDiff, List.map_cons, List.map_nil, Option.map_some, Option.map_none, List.nil_append, ↓reduceIte, vcu, ↓vcd] at hc
  obtain ⟨h3, h4, h6', -⟩ := hc
  have hbk := hb3 k (by omega)
  have hcap : (1000 : Int) * (T.length : Int) * (k : Int) ≤ 42000 := by
    have e : (1000 : Int) * (T.length : Int) * (k : Int) = ((1000 * T.length * k : Nat) : Int) := by rw [Int.natCast_mul, Int.natCast_mul]; rfl
    have e2 : 1000 * T.length * k ≤ 1000 * 6 * 7 := Nat.mul_le_mul (by omega) (by omega)
    omega
  by_cases hlt : k < T.length
  · obtain ⟨hp, o2, rfl, rfl, -, hR⟩ := vL.at (i := k) (by omega)
    obtain ⟨w, hx, hi⟩ := hR k (by omega)
    have hrl := hsq.2 k hlt
    have hrb : ∀ j, j < (L.getD k []).length → 0 ≤ (L.getD k []).getD j 0 ∧ (L.getD k []).getD j 0 ≤ 1000 := fun j hj => by
      have := hle k j hlt (by omega)
      unfold en at this
      omega
    have hps := psum_le2 (m := 0) hrb _ (Nat.le_refl _)
    have hgo : allN L (k + 1) = allN L k + psum (L.getD k []) (L.getD k []).length := rfl
    simp -implicitDefEqProofs (disch := omega) only [List.any_cons, List.any_nil, Nat.reduceEqDiff, List.map_cons, List.map_nil, Option.map_some, Option.map_none, List.nil_append, ↓reduceIte, vcu, ↓vcd, h3, h4, h6', h7, h8, hx]
    refine (sum3_calls σ' w _ hi (by omega) hrb).mono ?_
    rintro r _ ⟨rfl, rfl⟩
    rename_i σ'
    simp -implicitDefEqProofs (disch := omega) only [List.any_cons, List.any_nil, Nat.reduceEqDiff, List.map_cons, List.map_nil, Option.map_some, Option.map_none, List.nil_append, ↓reduceIte, vcu, ↓vcd, opK_some, h3, h4, h6', h7, h8]
    refine ⟨by simp [h3, h4, h6'], m - 1, by omega, k + 1, by omega, by rw [hgo], by simp, trivial⟩
  · have e : k = T.length := by omega
    rw [e] at h7
    simp -implicitDefEqProofs (disch := omega) only [List.any_cons, List.any_nil, Nat.reduceEqDiff, List.map_cons, List.map_nil, Option.map_some, Option.map_none, List.nil_append, ↓reduceIte, vcu, ↓vcd, h3, h4, h6', h7, h8]
    refine (implSends_calls w0 σ' _ F (vF.sub s123) (by omega) f3).mono ?_
    rintro r τ4 ⟨rfl, s4⟩
    replace s4 : Sub σ' τ4 := by first | exact s4 | (rw [s4]; exact Sub.refl _)
    simp -implicitDefEqProofs (disch := omega) only [List.any_cons, List.any_nil, Nat.reduceEqDiff, List.map_cons, List.map_nil, Option.map_some, Option.map_none, List.nil_append, ↓reduceIte, vcu, ↓vcd, opK_some, h3, h4, h6', h7, h8]
    refine (implAll_calls w0 τ4 _ T ((vT.sub s123).sub s4) (by omega)).mono ?_
    rintro r τ5 ⟨rfl, s5⟩
    rw [hTall, hall]
    by_cases hp : 0 < allN L T.length
    · simp -implicitDefEqProofs (disch := omega) only [List.any_cons, List.any_nil, Nat.reduceEqDiff, List.map_cons, List.map_nil, Option.map_some, Option.map_none, List.nil_append, ↓reduceIte, vcu, ↓vcd, opK_some, h3, h4, h6', h7, h8, decide_true]
      refine fin_one Try.results3 ?_
      simp -implicitDefEqProofs (disch := omega) only [List.any_cons, List.any_nil, Nat.reduceEqDiff, List.map_cons, List.map_nil, Option.map_some, Option.map_none, List.nil_append, ↓reduceIte, vcu, ↓vcd]
    · have hml := hlen (by omega)
      simp -implicitDefEqProofs (disch := omega) only [List.any_cons, List.any_nil, Nat.reduceEqDiff, List.map_cons, List.map_nil, Option.map_some, Option.map_none, List.nil_append, ↓reduceIte, vcu, ↓vcd, opK_some, h3, h4, h6', h7, h8, decide_true]
      refine (implMost_at τ5 g2 0 T (((hT.rows.sub s123).sub s4).sub s5) (by omega)).mono ?_
      rintro r τ6 ⟨rfl, s6⟩
      rw [hMv]
      simp -implicitDefEqProofs (disch := omega) only [List.any_cons, List.any_nil, Nat.reduceEqDiff, List.map_cons, List.map_nil, Option.map_some, Option.map_none, List.nil_append, ↓reduceIte, vcu, ↓vcd, opK_some]
      refine fin_one Try.results3 ?_
      simp -implicitDefEqProofs (disch := omega) only [List.any_cons, List.any_nil, Nat.reduceEqDiff, List.map_cons, List.map_nil, Option.map_some, Option.map_none, List.nil_append, ↓reduceIte, vcu, ↓vcd]
      simp
      omega

open Go.ChangeShapes Go.WideShapes Go.ChangeAt Go.RowKit

set_option maxRecDepth 100000 in
theorem lifted3 (os : Os) (started : os.Started) (H : Type) (enc : TypeId × Value → H) :
    ReturnsInHanded {} Try.checked os 3 .any (Rows.fnFrameOkSpec.pre6 enc Try.prog Try.f3 Rows.fnFrameOkRow.domain false) (Rows.fnFrameOkSpec.post enc Try.prog Try.f3 false true false false) := by
  refine returnsInHanded_of_change (C := Try.checked) own started (by kernel_rfl) Try.func3
    (ChangeSpec.witness6 (enc := enc) (C := Try.checked) false ⟨#[], #[.slice none 0 0], []⟩ 8 (by kernel_rfl) (by kernel_rfl) (by kernel_rfl) (by kernel_rfl)) ?_
  intro W base args ds gs before hval hW _ _
  have hW' := hW
  obtain ⟨p, q, hA, hV, -, -, -⟩ := hW'
  rw [Try.params3] at hA hval
  obtain ⟨v0, vs0, d0, ds0, p0, q0, hargs, rfl, rfl, h0, r0⟩ := trodAll_cons hA
  obtain ⟨rfl, rfl, rfl⟩ := trodAll_nil r0
  obtain ⟨rfl, rfl⟩ := trodVars_none hV
  obtain rfl : args = #[v0] := by cases args; simp_all
  obtain ⟨β0, σ0, a0, zs0, L0, U0, S0, R0, I0, w0, m0⟩ := start_ints Try.underlying22 Try.underlying5 co5 (Start.start W) (hval 0 22 v0 rfl rfl) h0
  refine ((law3 σ0 a0 zs0 (I0) m0 w0).2 noProt β0 W [v0] S0.rel (.cons R0 (.nil _))).mono fun e W' h => ?_
  obtain ⟨β', r, r', σ', -, rfl, hr, hrel, rfl⟩ := h
  cases hr
  exact ⟨_, rfl, law_post laidOut hW rfl rfl (by rw [Try.params3]; intro t ht; simp only [List.mem_cons, List.not_mem_nil, or_false, or_self] at ht; rcases ht with rfl <;> exact ⟨by kernel_rfl, of_decide_eq_true (by kernel_rfl)⟩) rfl Try.underlying4 hrel.below⟩

theorem facts3 : joinedFacts Try.prog 3 Try.f3 Rows.fnFrameOkSpec Rows.fnFrameOkRow = true := by
  unfold joinedFacts
  rw [mayE, liftsE, makeE]
  kernel_rfl

theorem proved3 : Rows.FnFrameOkSaid :=
  OpenClaim.holds_of_wide 3 Try.f3 rfl rfl rfl rfl rfl rfl rfl ⟨rfl, rfl, rfl, rfl, rfl⟩ rfl rfl rfl rfl rfl (by kernel_rfl) Try.func3 facts3 (of_decide_eq_true (by kernel_rfl))
    (by unfold Func.isWrapper; first | (rw [if_pos (by decide +kernel)]; kernel_rfl) | (rw [if_neg (by decide +kernel)]; exact ⟨rfl, rfl⟩))
    (fun os started H enc _ => lifted3 os started H enc)


end Go.Proofs.Ytpcbgdgfdfpapaa

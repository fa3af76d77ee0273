/- The reference: whether a frame is valid. -/
import Derived.Test.YtpcbgdgfdfpapaaFb
set_option linter.unusedSimpArgs false
set_option linter.unusedVariables false
namespace Go.Proofs.Ytpcbgdgfdfpapaa
open Go Go.Abs Go.RowKit Go.Frames
variable {w0 : World}

theorem specFrOk_at (σ : AHeap) (h o g0 p0 : Nat) (T F : List (List Int)) (hv : RowsAt σ h o T) (hl : T.length ≤ 1048576) (hf : RowsAt σ g0 p0 F) (hfl : F.length ≤ 1048576) (hfr : ∀ i, i < F.length → (F.getD i []).length ≤ 1048576) :
    ACall Try.prog w0 19 [.slice (some ⟨h, o, none⟩) T.length 1, .slice (some ⟨g0, p0, none⟩) F.length 1] σ fun r σ' => r = .bool (decide (FrOk T F)) ∧ Sub σ σ' := by
  refine acall_go mixed Try.func19 rfl good19 fun pr => ?_
  simp -implicitDefEqProofs (disch := omega) only [List.any_cons, List.any_nil, Nat.reduceEqDiff, List.map_cons, List.map_nil, Option.map_some, Option.map_none, List.nil_append, ↓reduceIte, vcu, ↓vcd]
  refine (specTV_at σ h o T hv hl).mono ?_
  rintro r _ ⟨rfl, rfl⟩
  rename_i σ
  by_cases hT : TV T
  case neg =>
    have hn : ¬ FrOk T F := fun hh => hT hh.1
    rw [decide_eq_false hT, decide_eq_false hn]
    simp -implicitDefEqProofs (disch := omega) only [List.any_cons, List.any_nil, Nat.reduceEqDiff, List.map_cons, List.map_nil, Option.map_some, Option.map_none, List.nil_append, ↓reduceIte, vcu, ↓vcd, opK_some]
    refine fin_one Try.results19 ⟨?_, Sub.refl _⟩
    simp -implicitDefEqProofs (disch := omega) only [List.any_cons, List.any_nil, Nat.reduceEqDiff, List.map_cons, List.map_nil, Option.map_some, Option.map_none, List.nil_append, ↓reduceIte, vcu, ↓vcd]
  rw [decide_eq_true hT]
  by_cases h36 : 36 < F.length
  · have hn : ¬ FrOk T F := fun hh => by have := hh.2.1; omega
    rw [decide_eq_false hn]
    simp -implicitDefEqProofs (disch := omega) only [List.any_cons, List.any_nil, Nat.reduceEqDiff, List.map_cons, List.map_nil, Option.map_some, Option.map_none, List.nil_append, ↓reduceIte, vcu, ↓vcd, opK_some]
    refine fin_one Try.results19 ⟨?_, Sub.refl _⟩
    simp -implicitDefEqProofs (disch := omega) only [List.any_cons, List.any_nil, Nat.reduceEqDiff, List.map_cons, List.map_nil, Option.map_some, Option.map_none, List.nil_append, ↓reduceIte, vcu, ↓vcd]
  have h6 := hT.1
  simp -implicitDefEqProofs (disch := omega) only [List.any_cons, List.any_nil, Nat.reduceEqDiff, List.map_cons, List.map_nil, Option.map_some, Option.map_none, List.nil_append, ↓reduceIte, vcu, ↓vcd, opK_some]
  refine vc_loop_c mixed (by kernel_rfl) [0, 1] (fun m a σ' => ∃ s : Nat, m + s = F.length ∧ a 5 = .int .i64 s ∧ σ' = σ ∧ ∀ i, i < s → SlotOk T.length (F.getD i [])) F.length ⟨0, by simp, rfl, rfl, fun i hi => absurd hi (by omega)⟩ ?_
  rintro m a σ' hc ⟨s, hs, h5, rfl, hok⟩
  simp -implicitDefEqProofs (disch := omega) only [List.any_cons, List.any_nil, Nat.reduceEqDiff, List.map_cons, List.map_nil, Option.map_some, Option.map_none, List.nil_append, ↓reduceIte, vcu, ↓vcd] at hc
  obtain ⟨h0, h1, -⟩ := hc
  by_cases hlt : s < F.length
  · obtain ⟨v, hx, hi⟩ := hf s hlt
    have hrk := hfr s hlt
    have no : ¬ SlotOk T.length (F.getD s []) → decide (FrOk T F) = false := fun hn => decide_eq_false fun hh => hn (hh.2.2.1 s hlt)
    generalize hrow : F.getD s [] = row at hi hrk no
    obtain ⟨pb, pz, rfl⟩ := ints_len hi
    by_cases hlen : row.length = T.length
    case neg =>
      rw [no fun hh => hlen hh.1]
      simp -implicitDefEqProofs (disch := omega) only [List.any_cons, List.any_nil, Nat.reduceEqDiff, List.map_cons, List.map_nil, Option.map_some, Option.map_none, List.nil_append, ↓reduceIte, vcu, ↓vcd, h0, h1, h5, hx]
      refine fin_one Try.results19 ⟨?_, Sub.refl _⟩
      simp -implicitDefEqProofs (disch := omega) only [List.any_cons, List.any_nil, Nat.reduceEqDiff, List.map_cons, List.map_nil, Option.map_some, Option.map_none, List.nil_append, ↓reduceIte, vcu, ↓vcd]
    simp -implicitDefEqProofs (disch := omega) only [List.any_cons, List.any_nil, Nat.reduceEqDiff, List.map_cons, List.map_nil, Option.map_some, Option.map_none, List.nil_append, ↓reduceIte, vcu, ↓vcd, h0, h1, h5, hx, hlen]
    refine vc_loop_c mixed (by kernel_rfl) [0, 1, 5] (fun m2 a2 σ2 => ∃ j : Nat, m2 + j = T.length ∧ a2 6 = .int .i64 j ∧ σ2 = σ' ∧ ∀ k, k < j → (-1 ≤ row.getD k 0 ∧ row.getD k 0 ≤ (T.length : Int) - 1) ∧ (0 ≤ row.getD k 0 → row.getD k 0 ∉ row.take k)) T.length ⟨0, by simp, rfl, rfl, fun k hk => absurd hk (by omega)⟩ ?_
    rintro m2 a2 σ2 hc2 ⟨j, hj, h6', rfl, hall⟩
    simp -implicitDefEqProofs (disch := omega) only [List.any_cons, List.any_nil, Nat.reduceEqDiff, List.map_cons, List.map_nil, Option.map_some, Option.map_none, List.nil_append, ↓reduceIte, vcu, ↓vcd, h0, h1, h5] at hc2
    obtain ⟨c0, c1, c5, -⟩ := hc2
    by_cases hjl : j < T.length
    case neg =>
      simp -implicitDefEqProofs (disch := omega) only [List.any_cons, List.any_nil, Nat.reduceEqDiff, List.map_cons, List.map_nil, Option.map_some, Option.map_none, List.nil_append, ↓reduceIte, vcu, ↓vcd, c0, c1, c5, h6', hx, hlen]
      refine ⟨by simp [c0, c1, h0, h1], m - 1, by omega, s + 1, by omega, by simp, trivial, fun i hi' => ?_⟩
      by_cases e : i = s
      · subst e; rw [hrow]; exact ⟨hlen, fun k hk => hall k (by omega)⟩
      · exact hok i (by omega)
    rcases hi with ⟨e, rfl⟩ | ⟨g, p, e, hg⟩
    · simp at hlen; omega
    injection e with ea eb ec
    subst ea; subst ec
    have hy := hg j (by omega)
    have bad : ¬ ((-1 ≤ row.getD j 0 ∧ row.getD j 0 ≤ (T.length : Int) - 1) ∧ (0 ≤ row.getD j 0 → row.getD j 0 ∉ row.take j)) → decide (FrOk T F) = false := fun hn => no fun hh => hn (hh.2 j hjl)
    have hhas := has_at (w0 := w0) σ2 g p (row.take j) (row.getD j 0) (hg.take j) (by simp; omega)
    rw [List.length_take, Nat.min_eq_left (by omega)] at hhas
    have hnext : ((-1 ≤ row.getD j 0 ∧ row.getD j 0 ≤ (T.length : Int) - 1) ∧ (0 ≤ row.getD j 0 → row.getD j 0 ∉ row.take j)) → ∀ k, k < j + 1 → (-1 ≤ row.getD k 0 ∧ row.getD k 0 ≤ (T.length : Int) - 1) ∧ (0 ≤ row.getD k 0 → row.getD k 0 ∉ row.take k) := fun hh k hk => by
      by_cases e : k = j
      · subst e; exact hh
      · exact hall k (by omega)
    simp -implicitDefEqProofs (disch := omega) only [List.any_cons, List.any_nil, Nat.reduceEqDiff, List.map_cons, List.map_nil, Option.map_some, Option.map_none, List.nil_append, ↓reduceIte, vcu, ↓vcd, c0, c1, c5, h6', hx, hy, hlen]
    rw [r_callq]
    refine ⟨_, in_calls _ _ _ _, ?_⟩
    by_cases hin : -1 ≤ row.getD j 0 ∧ row.getD j 0 ≤ (T.length : Int) - 1
    case neg =>
      rw [decide_eq_false hin, bad fun hh => hin hh.1]
      simp -implicitDefEqProofs (disch := omega) only [List.any_cons, List.any_nil, Nat.reduceEqDiff, List.map_cons, List.map_nil, Option.map_some, Option.map_none, List.nil_append, ↓reduceIte, vcu, ↓vcd, Bool.not_false]
      refine fin_one Try.results19 ⟨?_, Sub.refl _⟩
      simp -implicitDefEqProofs (disch := omega) only [List.any_cons, List.any_nil, Nat.reduceEqDiff, List.map_cons, List.map_nil, Option.map_some, Option.map_none, List.nil_append, ↓reduceIte, vcu, ↓vcd]
    rw [decide_eq_true hin]
    by_cases h00 : 0 ≤ row.getD j 0
    · simp -implicitDefEqProofs (disch := omega) only [List.any_cons, List.any_nil, Nat.reduceEqDiff, List.map_cons, List.map_nil, Option.map_some, Option.map_none, List.nil_append, ↓reduceIte, vcu, ↓vcd, c0, c1, c5, h6', hx, hy, hlen, Bool.not_true]
      rw [r_callq]
      refine ⟨_, hhas, ?_⟩
      by_cases hm : row.getD j 0 ∈ row.take j
      · rw [decide_eq_true hm, bad fun hh => hh.2 h00 hm]
        simp -implicitDefEqProofs (disch := omega) only [List.any_cons, List.any_nil, Nat.reduceEqDiff, List.map_cons, List.map_nil, Option.map_some, Option.map_none, List.nil_append, ↓reduceIte, vcu, ↓vcd]
        refine fin_one Try.results19 ⟨?_, Sub.refl _⟩
        simp -implicitDefEqProofs (disch := omega) only [List.any_cons, List.any_nil, Nat.reduceEqDiff, List.map_cons, List.map_nil, Option.map_some, Option.map_none, List.nil_append, ↓reduceIte, vcu, ↓vcd]
      · rw [decide_eq_false hm]
        simp -implicitDefEqProofs (disch := omega) only [List.any_cons, List.any_nil, Nat.reduceEqDiff, List.map_cons, List.map_nil, Option.map_some, Option.map_none, List.nil_append, ↓reduceIte, vcu, ↓vcd, c0, c1, c5, h6']
        exact ⟨by simp [c0, c1, c5, h0, h1, h5], m2 - 1, by omega, j + 1, by omega, by simp, trivial, hnext ⟨hin, fun _ => hm⟩⟩
    · simp -implicitDefEqProofs (disch := omega) only [List.any_cons, List.any_nil, Nat.reduceEqDiff, List.map_cons, List.map_nil, Option.map_some, Option.map_none, List.nil_append, ↓reduceIte, vcu, ↓vcd, c0, c1, c5, h6', hx, hy, hlen, Bool.not_true]
      exact ⟨by simp [c0, c1, c5, h0, h1, h5], m2 - 1, by omega, j + 1, by omega, by simp, trivial, hnext ⟨hin, fun hh => absurd hh h00⟩⟩
  · have e : s = F.length := by omega
    subst e
    have hL2 := leftV_tv hT F
    have hsqL := frameL_sq (tv_sq hT) F F.length
    have hiff : FrOk T F ↔ NonNeg (frameL T F F.length) := ⟨fun hh => hh.2.2.2, fun hh => ⟨hT, by omega, hok, hh⟩⟩
    simp -implicitDefEqProofs (disch := omega) only [List.any_cons, List.any_nil, Nat.reduceEqDiff, List.map_cons, List.map_nil, Option.map_some, Option.map_none, List.nil_append, ↓reduceIte, vcu, ↓vcd, h0, h1, h5]
    refine (specLeft_at σ' h o g0 p0 T F hv hl hf hfl hfr).mono ?_
    rintro r τ ⟨s1, g, q, rfl, hL⟩
    rw [hL2] at hL ⊢
    have hll := hsqL.1
    rw [hll]
    generalize frameL T F F.length = L at hL hsqL hiff hll
    clear hL2 hok
    simp -implicitDefEqProofs (disch := omega) only [List.any_cons, List.any_nil, Nat.reduceEqDiff, List.map_cons, List.map_nil, Option.map_some, Option.map_none, List.nil_append, ↓reduceIte, vcu, ↓vcd, opK_some]
    refine vc_loop_c mixed (by kernel_rfl) [7] (fun m a τ' => ∃ k : Nat, m + k = T.length ∧ a 8 = .int .i64 k ∧ τ' = τ ∧ ∀ i, i < k → ∀ j, j < T.length → 0 ≤ en L i j) T.length ⟨0, by simp, rfl, rfl, fun i hi => absurd hi (by omega)⟩ ?_
    rintro m a2 τ' hc2 ⟨k, hk, h8, rfl, hnn⟩
    simp -implicitDefEqProofs (disch := omega) only [List.any_cons, List.any_nil, Nat.reduceEqDiff, List.map_cons, List.map_nil, Option.map_some, Option.map_none, List.nil_append, ↓reduceIte, vcu, ↓vcd] at hc2
    obtain ⟨h7, -⟩ := hc2
    by_cases hkl : k < T.length
    · have hgk := hL.get (i := k) (by omega)
      have hrk := hL.row k (by omega)
      have hrl := hsqL.2 k hkl
      rw [hrl] at hgk
      simp -implicitDefEqProofs (disch := omega) only [List.any_cons, List.any_nil, Nat.reduceEqDiff, List.map_cons, List.map_nil, Option.map_some, Option.map_none, List.nil_append, ↓reduceIte, vcu, ↓vcd, h7, h8]
      refine vc_loop_c mixed (by kernel_rfl) [7, 8] (fun m3 a3 τ3 => ∃ j : Nat, m3 + j = T.length ∧ a3 9 = .int .i64 j ∧ τ3 = τ' ∧ ∀ i, i < j → 0 ≤ en L k i) T.length ⟨0, by simp, rfl, rfl, fun i hi => absurd hi (by omega)⟩ ?_
      rintro m3 a3 τ3 hc3 ⟨j, hj, h9, rfl, hnj⟩
      simp -implicitDefEqProofs (disch := omega) only [List.any_cons, List.any_nil, Nat.reduceEqDiff, List.map_cons, List.map_nil, Option.map_some, Option.map_none, List.nil_append, ↓reduceIte, vcu, ↓vcd, h7, h8] at hc3
      obtain ⟨d7, d8, -⟩ := hc3
      by_cases hjl : j < T.length
      · have hld : ld τ3 (q k) (0 + j) = some (.int .i64 (en L k j)) := by
          rw [own_at hrk (by rw [hrl]; exact hjl)]; rfl
        by_cases hneg : en L k j < 0
        · have hn : ¬ FrOk T F := fun hh => by
            have := hiff.1 hh k (by omega) j (by rw [hrl]; exact hjl)
            omega
          rw [decide_eq_false hn]
          simp -implicitDefEqProofs (disch := omega) only [List.any_cons, List.any_nil, Nat.reduceEqDiff, List.map_cons, List.map_nil, Option.map_some, Option.map_none, List.nil_append, ↓reduceIte, vcu, ↓vcd, d7, d8, h9, hgk, hld]
          refine fin_one Try.results19 ⟨?_, s1⟩
          simp -implicitDefEqProofs (disch := omega) only [List.any_cons, List.any_nil, Nat.reduceEqDiff, List.map_cons, List.map_nil, Option.map_some, Option.map_none, List.nil_append, ↓reduceIte, vcu, ↓vcd]
        · simp -implicitDefEqProofs (disch := omega) only [List.any_cons, List.any_nil, Nat.reduceEqDiff, List.map_cons, List.map_nil, Option.map_some, Option.map_none, List.nil_append, ↓reduceIte, vcu, ↓vcd, d7, d8, h9, hgk, hld]
          refine ⟨by simp [d7, d8, h7, h8], m3 - 1, by omega, j + 1, by omega, by simp, trivial, fun i hi' => ?_⟩
          by_cases e : i = j
          · subst e; omega
          · exact hnj i (by omega)
      · simp -implicitDefEqProofs (disch := omega) only [List.any_cons, List.any_nil, Nat.reduceEqDiff, List.map_cons, List.map_nil, Option.map_some, Option.map_none, List.nil_append, ↓reduceIte, vcu, ↓vcd, d7, d8, h9, hgk]
        refine ⟨by simp [d7, h7], m - 1, by omega, k + 1, by omega, by simp, trivial, fun i hi' => ?_⟩
        by_cases e : i = k
        · subst e; exact fun j' hj' => hnj j' (by omega)
        · exact hnn i (by omega)
    · have hF : FrOk T F := hiff.2 fun i hi j hj => hnn i (by omega) j (by rw [hsqL.2 i (by omega)] at hj; exact hj)
      rw [decide_eq_true hF]
      simp -implicitDefEqProofs (disch := omega) only [List.any_cons, List.any_nil, Nat.reduceEqDiff, List.map_cons, List.map_nil, Option.map_some, Option.map_none, List.nil_append, ↓reduceIte, vcu, ↓vcd, h7, h8]
      refine fin_one Try.results19 ⟨?_, s1⟩
      simp -implicitDefEqProofs (disch := omega) only [List.any_cons, List.any_nil, Nat.reduceEqDiff, List.map_cons, List.map_nil, Option.map_some, Option.map_none, List.nil_append, ↓reduceIte, vcu, ↓vcd]
end Go.Proofs.Ytpcbgdgfdfpapaa

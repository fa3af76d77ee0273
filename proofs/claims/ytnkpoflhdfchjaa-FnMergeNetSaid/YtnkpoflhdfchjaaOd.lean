/- BitFault and NetSorts of the program. -/
import Derived.Test.YtnkpoflhdfchjaaOc
set_option linter.unusedSimpArgs false
set_option linter.unusedVariables false
namespace Go.Proofs.Ytnkpoflhdfchjaa
open Go Go.Abs Go.RowKit
variable {w0 : World}

theorem implBF_at (σ : AHeap) (lines : Int) (h o : Nat) (cs : List (Int × Int)) (hv : PairsAt σ h o cs) (hl : cs.length ≤ 1048576) (hf : Fits cs) (hr : InR lines) :
    ACall Try.prog w0 39 [.int .i64 lines, .slice (some ⟨h, o, none⟩) cs.length 2] σ fun r σ' => r = .int .i64 (bfV lines cs) ∧ σ' = σ := by
  refine acall_goX Try.func39 rfl (by kernel_rfl) fun pr => ?_
  refine acodeX_seqV mixed (by kernel_rfl) ?_
  simp -implicitDefEqProofs (disch := omega) only [List.any_cons, List.any_nil, Nat.reduceEqDiff, List.map_cons, List.map_nil, Option.map_some, Option.map_none, List.nil_append, ↓reduceIte, vcu0, vcu1, vcu2, vcu3, vcu4, vcu5, vcu6, vcu7, vcu8, vcu9, vcu10, vcu11, vcu12, vcu13, vcu14, vcu15, vcu16, vcu17, vcu18, vcu19, vcu20, vcu21, vcu22, vcu23, vcu24, vcu25, vcu26, ↓vcd0, ↓vcd1, ↓vcd2, ↓vcd3]
  refine r_boxed fun b τ1 nb s1 e1 => ?_
  replace e1 : τ1 b = some ⟨[.slice (some ⟨h, o, none⟩) cs.length 2], false⟩ := e1
  refine r_new ze3 fun c τ2 nc s2 e2 => ?_
  replace e2 : τ2 c = some ⟨[.int .i64 0], false⟩ := e2
  have e1' := s2 _ _ e1
  have hcσ : σ c = none := free_sub s1 nc
  have s12 := s1.trans s2
  simp -implicitDefEqProofs (disch := omega) only [List.any_cons, List.any_nil, Nat.reduceEqDiff, List.map_cons, List.map_nil, Option.map_some, Option.map_none, List.nil_append, ↓reduceIte, vcu0, vcu1, vcu2, vcu3, vcu4, vcu5, vcu6, vcu7, vcu8, vcu9, vcu10, vcu11, vcu12, vcu13, vcu14, vcu15, vcu16, vcu17, vcu18, vcu19, vcu20, vcu21, vcu22, vcu23, vcu24, vcu25, vcu26, ↓vcd0, ↓vcd1, ↓vcd2, ↓vcd3]
  refine acodeX_seqV mixed (by kernel_rfl) ?_
  have l1 : ld τ2 b 0 = some (.slice (some ⟨h, o, none⟩) cs.length 2) := ld_of e1' rfl
  simp -implicitDefEqProofs (disch := omega) only [List.any_cons, List.any_nil, Nat.reduceEqDiff, List.map_cons, List.map_nil, Option.map_some, Option.map_none, List.nil_append, ↓reduceIte, vcu0, vcu1, vcu2, vcu3, vcu4, vcu5, vcu6, vcu7, vcu8, vcu9, vcu10, vcu11, vcu12, vcu13, vcu14, vcu15, vcu16, vcu17, vcu18, vcu19, vcu20, vcu21, vcu22, vcu23, vcu24, vcu25, vcu26, ↓vcd0, ↓vcd1, ↓vcd2, ↓vcd3, l1]
  refine (implNV_at τ2 lines h o cs (hv.sub s12) hl hf hr).mono ?_
  rintro r _ ⟨rfl, rfl⟩
  rename_i τ2
  by_cases hN : NV lines cs
  · rw [decide_eq_true hN]
    simp -implicitDefEqProofs (disch := omega) only [List.any_cons, List.any_nil, Nat.reduceEqDiff, List.map_cons, List.map_nil, Option.map_some, Option.map_none, List.nil_append, ↓reduceIte, vcu0, vcu1, vcu2, vcu3, vcu4, vcu5, vcu6, vcu7, vcu8, vcu9, vcu10, vcu11, vcu12, vcu13, vcu14, vcu15, vcu16, vcu17, vcu18, vcu19, vcu20, vcu21, vcu22, vcu23, vcu24, vcu25, vcu26, ↓vcd0, ↓vcd1, ↓vcd2, ↓vcd3, opK_some]
    refine acodeX_seqXV mixed (by kernel_rfl) ?_
    refine acodeX_seqV mixed (by kernel_rfl) ?_
    simp -implicitDefEqProofs (disch := omega) only [List.any_cons, List.any_nil, Nat.reduceEqDiff, List.map_cons, List.map_nil, Option.map_some, Option.map_none, List.nil_append, ↓reduceIte, vcu0, vcu1, vcu2, vcu3, vcu4, vcu5, vcu6, vcu7, vcu8, vcu9, vcu10, vcu11, vcu12, vcu13, vcu14, vcu15, vcu16, vcu17, vcu18, vcu19, vcu20, vcu21, vcu22, vcu23, vcu24, vcu25, vcu26, ↓vcd0, ↓vcd1, ↓vcd2, ↓vcd3]
    have hN1 := hN.1
    obtain ⟨n, rfl⟩ : ∃ n : Nat, lines = n := ⟨lines.toNat, by omega⟩
    have hn : n ≤ 6 := by omega
    refine (bitInputs_at τ2 n).mono ?_
    rintro _ τ3 ⟨b3, n3, rfl, s3, e3⟩
    simp -implicitDefEqProofs (disch := omega) only [List.any_cons, List.any_nil, Nat.reduceEqDiff, List.map_cons, List.map_nil, Option.map_some, Option.map_none, List.nil_append, ↓reduceIte, vcu0, vcu1, vcu2, vcu3, vcu4, vcu5, vcu6, vcu7, vcu8, vcu9, vcu10, vcu11, vcu12, vcu13, vcu14, vcu15, vcu16, vcu17, vcu18, vcu19, vcu20, vcu21, vcu22, vcu23, vcu24, vcu25, vcu26, ↓vcd0, ↓vcd1, ↓vcd2, ↓vcd3, opK_some]
    refine acodeX_block ?_
    refine acodeX_range (gf := 97) (caps := #[.pointer (some ⟨b3, 0, none⟩)]) mixed rfl .ret rfl rfl (by simp -implicitDefEqProofs (disch := omega) only [List.any_cons, List.any_nil, Nat.reduceEqDiff, List.map_cons, List.map_nil, Option.map_some, Option.map_none, List.nil_append, ↓reduceIte, vcu0, vcu1, vcu2, vcu3, vcu4, vcu5, vcu6, vcu7, vcu8, vcu9, vcu10, vcu11, vcu12, vcu13, vcu14, vcu15, vcu16, vcu17, vcu18, vcu19, vcu20, vcu21, vcu22, vcu23, vcu24, vcu25, vcu26, ↓vcd0, ↓vcd1, ↓vcd2, ↓vcd3]) (by kernel_rfl) (by kernel_rfl) (by kernel_rfl) fun pr1 l G G' hGG nG nG' hY => ?_
    have hsg := sub_signs nG nG'
    have s03 := s12.trans s3
    have nGσ : σ G = none := free_sub s03 nG
    have nGσ' : σ G' = none := free_sub s03 nG'
    have hcG : c ≠ G := ne_of' nG (s3 _ _ e2)
    have hcG' : c ≠ G' := ne_of' nG' (s3 _ _ e2)
    refine (bits_iter b3 n hn (fun k τ => Sub τ3 τ ∧ τ G = on ∧ τ G' = off ∧ ∀ j, j < k → Up (runs cs (bitsL n j)))
      (fun τ => τ G' = on ∧ ∃ k : Nat, fault cs n = some k ∧ τ c = some ⟨[.int .i64 k], false⟩ ∧ Sub σ τ) ⟨hsg, by rw [AHeap.upd_ne _ _ hGG, AHeap.upd_same], AHeap.upd_same _ _ _, fun j hj => absurd hj (by omega)⟩ (fun k τ hI => hI.1 _ _ e3) ?_).mono ?_
    · rintro k hk τ0 τ g ⟨hb0, hG, hG', hup⟩ ng s0 eg
      have hs := hb0.trans s0
      refine hY _ τ _ rfl (s0 _ _ hG) (s0 _ _ hG') fun prb => ?_
      simp -implicitDefEqProofs (disch := omega) only [List.any_cons, List.any_nil, Nat.reduceEqDiff, List.map_cons, List.map_nil, Option.map_some, Option.map_none, List.nil_append, ↓reduceIte, vcu0, vcu1, vcu2, vcu3, vcu4, vcu5, vcu6, vcu7, vcu8, vcu9, vcu10, vcu11, vcu12, vcu13, vcu14, vcu15, vcu16, vcu17, vcu18, vcu19, vcu20, vcu21, vcu22, vcu23, vcu24, vcu25, vcu26, ↓vcd0, ↓vcd1, ↓vcd2, ↓vcd3, List.toList_toArray, afill_cons, afill_nil]
      refine assign_normal (s0 _ _ hG) (s0 _ _ hG') ?_
      have l2 : ld τ b 0 = some (.slice (some ⟨h, o, none⟩) cs.length 2) := ld_of (hs _ _ (s3 _ _ e1')) rfl
      simp -implicitDefEqProofs (disch := omega) only [List.any_cons, List.any_nil, Nat.reduceEqDiff, List.map_cons, List.map_nil, Option.map_some, Option.map_none, List.nil_append, ↓reduceIte, vcu0, vcu1, vcu2, vcu3, vcu4, vcu5, vcu6, vcu7, vcu8, vcu9, vcu10, vcu11, vcu12, vcu13, vcu14, vcu15, vcu16, vcu17, vcu18, vcu19, vcu20, vcu21, vcu22, vcu23, vcu24, vcu25, vcu26, ↓vcd0, ↓vcd1, ↓vcd2, ↓vcd3, l2]
      have hrn := runNet_at (w0 := w0) τ h o cs g (bitsL n k) (hv.sub (s03.trans hs)) hl eg (fun hne => ?_) (by rw [bitsL_length]; omega) (by rw [bitsL_length]; exact hN.2)
      · rw [bitsL_length] at hrn
        refine hrn.mono ?_
        rintro r τ5 ⟨k5, e5⟩
        simp -implicitDefEqProofs (disch := omega) only [List.any_cons, List.any_nil, Nat.reduceEqDiff, List.map_cons, List.map_nil, Option.map_some, Option.map_none, List.nil_append, ↓reduceIte, vcu0, vcu1, vcu2, vcu3, vcu4, vcu5, vcu6, vcu7, vcu8, vcu9, vcu10, vcu11, vcu12, vcu13, vcu14, vcu15, vcu16, vcu17, vcu18, vcu19, vcu20, vcu21, vcu22, vcu23, vcu24, vcu25, vcu26, ↓vcd0, ↓vcd1, ↓vcd2, ↓vcd3, opK_none, opK_some]
        have his := isSorted_at (w0 := w0) τ5 g 0 (runs cs (bitsL n k)) (intsAt_own e5) (by rw [runs_length, bitsL_length]; omega)
        rw [runs_length, bitsL_length] at his
        refine his.mono ?_
        rintro r _ ⟨rfl, rfl⟩
        rename_i τ5
        have hs5 := k5.sub hs (free_sub hb0 ng)
        have hG5 := k5.at (s0 _ _ hG) (ne_of' ng hG)
        have hG5' := k5.at (s0 _ _ hG') (ne_of' ng hG')
        by_cases hU : Up (runs cs (bitsL n k))
        · rw [decide_eq_true hU]
          simp -implicitDefEqProofs (disch := omega) only [List.any_cons, List.any_nil, Nat.reduceEqDiff, List.map_cons, List.map_nil, Option.map_some, Option.map_none, List.nil_append, ↓reduceIte, vcu0, vcu1, vcu2, vcu3, vcu4, vcu5, vcu6, vcu7, vcu8, vcu9, vcu10, vcu11, vcu12, vcu13, vcu14, vcu15, vcu16, vcu17, vcu18, vcu19, vcu20, vcu21, vcu22, vcu23, vcu24, vcu25, vcu26, ↓vcd0, ↓vcd1, ↓vcd2, ↓vcd3, opK_some]
          refine round_normal hG5 hG5' (.inl ⟨rfl, hs5, hG5, hG5', fun j hj => ?_⟩)
          by_cases e : j = k
          · subst e; exact hU
          · exact hup j (by omega)
        · rw [decide_eq_false hU]
          simp -implicitDefEqProofs (disch := omega) only [List.any_cons, List.any_nil, Nat.reduceEqDiff, List.map_cons, List.map_nil, Option.map_some, Option.map_none, List.nil_append, ↓reduceIte, vcu0, vcu1, vcu2, vcu3, vcu4, vcu5, vcu6, vcu7, vcu8, vcu9, vcu10, vcu11, vcu12, vcu13, vcu14, vcu15, vcu16, vcu17, vcu18, vcu19, vcu20, vcu21, vcu22, vcu23, vcu24, vcu25, vcu26, ↓vcd0, ↓vcd1, ↓vcd2, ↓vcd3, opK_some]
          refine r_set (g := c) (i := 0) (by simp -implicitDefEqProofs (disch := omega) only [List.any_cons, List.any_nil, Nat.reduceEqDiff, List.map_cons, List.map_nil, Option.map_some, Option.map_none, List.nil_append, ↓reduceIte, vcu0, vcu1, vcu2, vcu3, vcu4, vcu5, vcu6, vcu7, vcu8, vcu9, vcu10, vcu11, vcu12, vcu13, vcu14, vcu15, vcu16, vcu17, vcu18, vcu19, vcu20, vcu21, vcu22, vcu23, vcu24, vcu25, vcu26, ↓vcd0, ↓vcd1, ↓vcd2, ↓vcd3]) (by simp -implicitDefEqProofs (disch := omega) only [List.any_cons, List.any_nil, Nat.reduceEqDiff, List.map_cons, List.map_nil, Option.map_some, Option.map_none, List.nil_append, ↓reduceIte, vcu0, vcu1, vcu2, vcu3, vcu4, vcu5, vcu6, vcu7, vcu8, vcu9, vcu10, vcu11, vcu12, vcu13, vcu14, vcu15, vcu16, vcu17, vcu18, vcu19, vcu20, vcu21, vcu22, vcu23, vcu24, vcu25, vcu26, ↓vcd0, ↓vcd1, ↓vcd2, ↓vcd3]; rfl) co3 (by simp -implicitDefEqProofs (disch := omega) only [List.any_cons, List.any_nil, Nat.reduceEqDiff, List.map_cons, List.map_nil, Option.map_some, Option.map_none, List.nil_append, ↓reduceIte, vcu0, vcu1, vcu2, vcu3, vcu4, vcu5, vcu6, vcu7, vcu8, vcu9, vcu10, vcu11, vcu12, vcu13, vcu14, vcu15, vcu16, vcu17, vcu18, vcu19, vcu20, vcu21, vcu22, vcu23, vcu24, vcu25, vcu26, ↓vcd0, ↓vcd1, ↓vcd2, ↓vcd3]; rfl) (hs5 _ _ (s3 _ _ e2)) (by simp) fun τ6 k6 e6 => ?_
          simp -implicitDefEqProofs (disch := omega) only [List.any_cons, List.any_nil, Nat.reduceEqDiff, List.map_cons, List.map_nil, Option.map_some, Option.map_none, List.nil_append, ↓reduceIte, vcu0, vcu1, vcu2, vcu3, vcu4, vcu5, vcu6, vcu7, vcu8, vcu9, vcu10, vcu11, vcu12, vcu13, vcu14, vcu15, vcu16, vcu17, vcu18, vcu19, vcu20, vcu21, vcu22, vcu23, vcu24, vcu25, vcu26, ↓vcd0, ↓vcd1, ↓vcd2, ↓vcd3] at e6
          simp -implicitDefEqProofs (disch := omega) only [List.any_cons, List.any_nil, Nat.reduceEqDiff, List.map_cons, List.map_nil, Option.map_some, Option.map_none, List.nil_append, ↓reduceIte, vcu0, vcu1, vcu2, vcu3, vcu4, vcu5, vcu6, vcu7, vcu8, vcu9, vcu10, vcu11, vcu12, vcu13, vcu14, vcu15, vcu16, vcu17, vcu18, vcu19, vcu20, vcu21, vcu22, vcu23, vcu24, vcu25, vcu26, ↓vcd0, ↓vcd1, ↓vcd2, ↓vcd3]
          have hG6' := k6.at hG5' hcG'.symm
          refine round_jump rfl hG6' (.inr ⟨rfl, AHeap.upd_same _ _ _, k, fault_some.2 ⟨hk, hU, hup⟩, ?_, sub_jump nGσ nGσ' (k6.sub (s03.trans hs5) hcσ)⟩)
          rw [AHeap.upd_ne _ _ hcG', AHeap.upd_ne _ _ hcG]
          exact e6
      · obtain ⟨c0, hc0⟩ : ∃ c0, c0 ∈ cs := by
          cases cs with
          | nil => exact absurd rfl hne
          | cons c0 cs => exact ⟨c0, by simp⟩
        intro e
        subst e
        obtain ⟨q1, _⟩ := (hv.sub s03) 0 (List.length_pos_of_mem hc0)
        unfold ld at q1
        cases hσ : τ3 h with
        | none => rw [hσ] at q1; cases q1
        | some ob => rw [hb0 _ _ hσ] at ng; cases ng
    · rintro _ τ (⟨hb, hG, hG', hup⟩ | ⟨hG', k, hk, hc, hs⟩)
      · refine .inl ⟨hG, ?_⟩
        have hbf := bfV_none (lines := n) hN (fault_none.2 (by simpa using hup))
        simp -implicitDefEqProofs (disch := omega) only [List.any_cons, List.any_nil, Nat.reduceEqDiff, List.map_cons, List.map_nil, Option.map_some, Option.map_none, List.nil_append, ↓reduceIte, vcu0, vcu1, vcu2, vcu3, vcu4, vcu5, vcu6, vcu7, vcu8, vcu9, vcu10, vcu11, vcu12, vcu13, vcu14, vcu15, vcu16, vcu17, vcu18, vcu19, vcu20, vcu21, vcu22, vcu23, vcu24, vcu25, vcu26, ↓vcd0, ↓vcd1, ↓vcd2, ↓vcd3]
        intro n' hn'
        refine r_set (g := c) (i := 0) (by simp -implicitDefEqProofs (disch := omega) only [List.any_cons, List.any_nil, Nat.reduceEqDiff, List.map_cons, List.map_nil, Option.map_some, Option.map_none, List.nil_append, ↓reduceIte, vcu0, vcu1, vcu2, vcu3, vcu4, vcu5, vcu6, vcu7, vcu8, vcu9, vcu10, vcu11, vcu12, vcu13, vcu14, vcu15, vcu16, vcu17, vcu18, vcu19, vcu20, vcu21, vcu22, vcu23, vcu24, vcu25, vcu26, ↓vcd0, ↓vcd1, ↓vcd2, ↓vcd3]) (by simp -implicitDefEqProofs (disch := omega) only [List.any_cons, List.any_nil, Nat.reduceEqDiff, List.map_cons, List.map_nil, Option.map_some, Option.map_none, List.nil_append, ↓reduceIte, vcu0, vcu1, vcu2, vcu3, vcu4, vcu5, vcu6, vcu7, vcu8, vcu9, vcu10, vcu11, vcu12, vcu13, vcu14, vcu15, vcu16, vcu17, vcu18, vcu19, vcu20, vcu21, vcu22, vcu23, vcu24, vcu25, vcu26, ↓vcd0, ↓vcd1, ↓vcd2, ↓vcd3]; rfl) co3 (by simp -implicitDefEqProofs (disch := omega) only [List.any_cons, List.any_nil, Nat.reduceEqDiff, List.map_cons, List.map_nil, Option.map_some, Option.map_none, List.nil_append, ↓reduceIte, vcu0, vcu1, vcu2, vcu3, vcu4, vcu5, vcu6, vcu7, vcu8, vcu9, vcu10, vcu11, vcu12, vcu13, vcu14, vcu15, vcu16, vcu17, vcu18, vcu19, vcu20, vcu21, vcu22, vcu23, vcu24, vcu25, vcu26, ↓vcd0, ↓vcd1, ↓vcd2, ↓vcd3]; rfl) (hb _ _ (s3 _ _ e2)) (by simp) fun τ6 k6 e6 => ?_
        simp -implicitDefEqProofs (disch := omega) only [List.any_cons, List.any_nil, Nat.reduceEqDiff, List.map_cons, List.map_nil, Option.map_some, Option.map_none, List.nil_append, ↓reduceIte, vcu0, vcu1, vcu2, vcu3, vcu4, vcu5, vcu6, vcu7, vcu8, vcu9, vcu10, vcu11, vcu12, vcu13, vcu14, vcu15, vcu16, vcu17, vcu18, vcu19, vcu20, vcu21, vcu22, vcu23, vcu24, vcu25, vcu26, ↓vcd0, ↓vcd1, ↓vcd2, ↓vcd3] at e6
        simp -implicitDefEqProofs (disch := omega) only [List.any_cons, List.any_nil, Nat.reduceEqDiff, List.map_cons, List.map_nil, Option.map_some, Option.map_none, List.nil_append, ↓reduceIte, vcu0, vcu1, vcu2, vcu3, vcu4, vcu5, vcu6, vcu7, vcu8, vcu9, vcu10, vcu11, vcu12, vcu13, vcu14, vcu15, vcu16, vcu17, vcu18, vcu19, vcu20, vcu21, vcu22, vcu23, vcu24, vcu25, vcu26, ↓vcd0, ↓vcd1, ↓vcd2, ↓vcd3]
        have l6 : ld τ6 c 0 = some (.int .i64 (-1)) := ld_of e6 rfl
        refine fin_cell Try.results39 σ (k6.sub (s03.trans hb) hcσ) (v := .int .i64 (-1)) (by simp -implicitDefEqProofs (disch := omega) only [List.any_cons, List.any_nil, Nat.reduceEqDiff, List.map_cons, List.map_nil, Option.map_some, Option.map_none, List.nil_append, ↓reduceIte, vcu0, vcu1, vcu2, vcu3, vcu4, vcu5, vcu6, vcu7, vcu8, vcu9, vcu10, vcu11, vcu12, vcu13, vcu14, vcu15, vcu16, vcu17, vcu18, vcu19, vcu20, vcu21, vcu22, vcu23, vcu24, vcu25, vcu26, ↓vcd0, ↓vcd1, ↓vcd2, ↓vcd3, l6]) ⟨by rw [hbf], rfl⟩
      · refine .inr ⟨hG', ?_⟩
        have hbf := bfV_some (lines := n) hN (by simpa using hk)
        have l6 : ld τ c 0 = some (.int .i64 k) := ld_of hc rfl
        simp -implicitDefEqProofs (disch := omega) only [List.any_cons, List.any_nil, Nat.reduceEqDiff, List.map_cons, List.map_nil, Option.map_some, Option.map_none, List.nil_append, ↓reduceIte, vcu0, vcu1, vcu2, vcu3, vcu4, vcu5, vcu6, vcu7, vcu8, vcu9, vcu10, vcu11, vcu12, vcu13, vcu14, vcu15, vcu16, vcu17, vcu18, vcu19, vcu20, vcu21, vcu22, vcu23, vcu24, vcu25, vcu26, ↓vcd0, ↓vcd1, ↓vcd2, ↓vcd3]
        refine fin_cell Try.results39 σ hs (v := .int .i64 k) (by simp -implicitDefEqProofs (disch := omega) only [List.any_cons, List.any_nil, Nat.reduceEqDiff, List.map_cons, List.map_nil, Option.map_some, Option.map_none, List.nil_append, ↓reduceIte, vcu0, vcu1, vcu2, vcu3, vcu4, vcu5, vcu6, vcu7, vcu8, vcu9, vcu10, vcu11, vcu12, vcu13, vcu14, vcu15, vcu16, vcu17, vcu18, vcu19, vcu20, vcu21, vcu22, vcu23, vcu24, vcu25, vcu26, ↓vcd0, ↓vcd1, ↓vcd2, ↓vcd3, l6]) ⟨by rw [hbf], rfl⟩
  · rw [decide_eq_false hN]
    simp -implicitDefEqProofs (disch := omega) only [List.any_cons, List.any_nil, Nat.reduceEqDiff, List.map_cons, List.map_nil, Option.map_some, Option.map_none, List.nil_append, ↓reduceIte, vcu0, vcu1, vcu2, vcu3, vcu4, vcu5, vcu6, vcu7, vcu8, vcu9, vcu10, vcu11, vcu12, vcu13, vcu14, vcu15, vcu16, vcu17, vcu18, vcu19, vcu20, vcu21, vcu22, vcu23, vcu24, vcu25, vcu26, ↓vcd0, ↓vcd1, ↓vcd2, ↓vcd3, opK_some]
    refine r_set (g := c) (i := 0) (by simp -implicitDefEqProofs (disch := omega) only [List.any_cons, List.any_nil, Nat.reduceEqDiff, List.map_cons, List.map_nil, Option.map_some, Option.map_none, List.nil_append, ↓reduceIte, vcu0, vcu1, vcu2, vcu3, vcu4, vcu5, vcu6, vcu7, vcu8, vcu9, vcu10, vcu11, vcu12, vcu13, vcu14, vcu15, vcu16, vcu17, vcu18, vcu19, vcu20, vcu21, vcu22, vcu23, vcu24, vcu25, vcu26, ↓vcd0, ↓vcd1, ↓vcd2, ↓vcd3]) (by simp -implicitDefEqProofs (disch := omega) only [List.any_cons, List.any_nil, Nat.reduceEqDiff, List.map_cons, List.map_nil, Option.map_some, Option.map_none, List.nil_append, ↓reduceIte, vcu0, vcu1, vcu2, vcu3, vcu4, vcu5, vcu6, vcu7, vcu8, vcu9, vcu10, vcu11, vcu12, vcu13, vcu14, vcu15, vcu16, vcu17, vcu18, vcu19, vcu20, vcu21, vcu22, vcu23, vcu24, vcu25, vcu26, ↓vcd0, ↓vcd1, ↓vcd2, ↓vcd3]; rfl) co3 (by simp -implicitDefEqProofs (disch := omega) only [List.any_cons, List.any_nil, Nat.reduceEqDiff, List.map_cons, List.map_nil, Option.map_some, Option.map_none, List.nil_append, ↓reduceIte, vcu0, vcu1, vcu2, vcu3, vcu4, vcu5, vcu6, vcu7, vcu8, vcu9, vcu10, vcu11, vcu12, vcu13, vcu14, vcu15, vcu16, vcu17, vcu18, vcu19, vcu20, vcu21, vcu22, vcu23, vcu24, vcu25, vcu26, ↓vcd0, ↓vcd1, ↓vcd2, ↓vcd3]; rfl) e2 (by simp) fun τ6 k6 e6 => ?_
    simp -implicitDefEqProofs (disch := omega) only [List.any_cons, List.any_nil, Nat.reduceEqDiff, List.map_cons, List.map_nil, Option.map_some, Option.map_none, List.nil_append, ↓reduceIte, vcu0, vcu1, vcu2, vcu3, vcu4, vcu5, vcu6, vcu7, vcu8, vcu9, vcu10, vcu11, vcu12, vcu13, vcu14, vcu15, vcu16, vcu17, vcu18, vcu19, vcu20, vcu21, vcu22, vcu23, vcu24, vcu25, vcu26, ↓vcd0, ↓vcd1, ↓vcd2, ↓vcd3] at e6
    simp -implicitDefEqProofs (disch := omega) only [List.any_cons, List.any_nil, Nat.reduceEqDiff, List.map_cons, List.map_nil, Option.map_some, Option.map_none, List.nil_append, ↓reduceIte, vcu0, vcu1, vcu2, vcu3, vcu4, vcu5, vcu6, vcu7, vcu8, vcu9, vcu10, vcu11, vcu12, vcu13, vcu14, vcu15, vcu16, vcu17, vcu18, vcu19, vcu20, vcu21, vcu22, vcu23, vcu24, vcu25, vcu26, ↓vcd0, ↓vcd1, ↓vcd2, ↓vcd3]
    have l6 : ld τ6 c 0 = some (.int .i64 (-1)) := ld_of e6 rfl
    refine fin_cell Try.results39 σ (k6.sub s12 hcσ) (v := .int .i64 (-1)) (by simp -implicitDefEqProofs (disch := omega) only [List.any_cons, List.any_nil, Nat.reduceEqDiff, List.map_cons, List.map_nil, Option.map_some, Option.map_none, List.nil_append, ↓reduceIte, vcu0, vcu1, vcu2, vcu3, vcu4, vcu5, vcu6, vcu7, vcu8, vcu9, vcu10, vcu11, vcu12, vcu13, vcu14, vcu15, vcu16, vcu17, vcu18, vcu19, vcu20, vcu21, vcu22, vcu23, vcu24, vcu25, vcu26, ↓vcd0, ↓vcd1, ↓vcd2, ↓vcd3, l6]) ⟨by rw [bfV_not hN], rfl⟩
end Go.Proofs.Ytnkpoflhdfchjaa

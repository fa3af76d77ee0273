/- StepRun of the program. -/
import Derived.Test.YtgieeafdgdkkcaaXk
set_option linter.unusedSimpArgs false
set_option linter.unusedVariables false
namespace Go.Proofs.Ytgieeafdgdkkcaa
open Go Go.Abs Go.RowKit Go.Ban
variable {w0 : World}

theorem xor_one {X : Nat} (h : X < 8) : xorN (X : Int) 1 = fl X := by
  have : ∀ X, X < 8 → (X ^^^ 1) = fl X := by decide
  exact this X h
theorem drop_take {set : List Bool} {L lg s : Nat} (hL : Ls L lg) (hs : s < lg) (hl : set.length = L / 2 * lg) {x : Nat} (hx : x < L / 2) : ((set.drop (s * (L / 2))).take (L / 2)).getD x false = cOf set (s * (L / 2) + x) := by
  unfold cOf
  simp only [List.getD, List.getElem?_take, if_pos hx, List.getElem?_drop]
theorem implRun_ro (σ : AHeap) (z : Int) (h o : Nat) (cs : List Value) (set : List Bool) (hro : σ h = some ⟨cs, true⟩) (hv : BoolsAt σ h o set) (hl : set.length ≤ 1048576) :
    ACall Try.prog w0 42 [.int .i64 z, .slice (some ⟨h, o, none⟩) set.length 1] σ fun r σ' => OwnI σ σ' r (runV z set) := by
  refine acall_goX Try.func42 rfl (by kernel_rfl) fun pr => ?_
  refine acodeX_seqV mixed (by kernel_rfl) ?_
  simp -implicitDefEqProofs (disch := omega) only [List.any_cons, List.any_nil, Nat.reduceEqDiff, List.map_cons, List.map_nil, Option.map_some, Option.map_none, List.nil_append, ↓reduceIte, vcu0, vcu1, vcu2, vcu3, vcu4, vcu5, vcu6, vcu7, vcu8, vcu9, vcu10, vcu11, vcu12, vcu13, vcu14, vcu15, vcu16, vcu17, vcu18, vcu19, vcu20, vcu21, vcu22, ↓vcd0, ↓vcd1, ↓vcd2, ↓vcd3]
  refine r_boxed fun b τ1 nb s1 e1 => ?_
  replace e1 : τ1 b = some ⟨[.int .i64 z], false⟩ := e1
  have l1 : ld τ1 b 0 = some (.int .i64 z) := ld_of e1 rfl
  simp -implicitDefEqProofs (disch := omega) only [List.any_cons, List.any_nil, Nat.reduceEqDiff, List.map_cons, List.map_nil, Option.map_some, Option.map_none, List.nil_append, ↓reduceIte, vcu0, vcu1, vcu2, vcu3, vcu4, vcu5, vcu6, vcu7, vcu8, vcu9, vcu10, vcu11, vcu12, vcu13, vcu14, vcu15, vcu16, vcu17, vcu18, vcu19, vcu20, vcu21, vcu22, ↓vcd0, ↓vcd1, ↓vcd2, ↓vcd3]
  refine acodeX_seqV mixed (by kernel_rfl) ?_
  simp -implicitDefEqProofs (disch := omega) only [List.any_cons, List.any_nil, Nat.reduceEqDiff, List.map_cons, List.map_nil, Option.map_some, Option.map_none, List.nil_append, ↓reduceIte, vcu0, vcu1, vcu2, vcu3, vcu4, vcu5, vcu6, vcu7, vcu8, vcu9, vcu10, vcu11, vcu12, vcu13, vcu14, vcu15, vcu16, vcu17, vcu18, vcu19, vcu20, vcu21, vcu22, ↓vcd0, ↓vcd1, ↓vcd2, ↓vcd3, l1]
  refine (implStepMany_at τ1 z).mono ?_
  rintro r _ ⟨rfl, rfl⟩
  rename_i τ1
  by_cases hR : ROk z set
  case neg =>
    have hne : ¬ (set.length : Int) = stepV z := fun e => hR ⟨fun h0 => by
      have : stepV z = -1 := by unfold stepV; rw [if_pos h0]
      omega, e⟩
    rw [runV_no hR]
    simp -implicitDefEqProofs (disch := omega) only [List.any_cons, List.any_nil, Nat.reduceEqDiff, List.map_cons, List.map_nil, Option.map_some, Option.map_none, List.nil_append, ↓reduceIte, vcu0, vcu1, vcu2, vcu3, vcu4, vcu5, vcu6, vcu7, vcu8, vcu9, vcu10, vcu11, vcu12, vcu13, vcu14, vcu15, vcu16, vcu17, vcu18, vcu19, vcu20, vcu21, vcu22, ↓vcd0, ↓vcd1, ↓vcd2, ↓vcd3, opK_some]
    refine finC_one Try.results42 s1 (v := .slice none 0 0) ?_ (.inl ⟨rfl, rfl⟩)
    simp -implicitDefEqProofs (disch := omega) only [List.any_cons, List.any_nil, Nat.reduceEqDiff, List.map_cons, List.map_nil, Option.map_some, Option.map_none, List.nil_append, ↓reduceIte, vcu0, vcu1, vcu2, vcu3, vcu4, vcu5, vcu6, vcu7, vcu8, vcu9, vcu10, vcu11, vcu12, vcu13, vcu14, vcu15, vcu16, vcu17, vcu18, vcu19, vcu20, vcu21, vcu22, ↓vcd0, ↓vcd1, ↓vcd2, ↓vcd3]
  have he := hR.2
  obtain ⟨L, lg, rfl, -, hL, hsl, hrv⟩ := hR.ls
  rw [hrv]
  have hle := hL.le
  have hsm : set.length ≤ 12 := by rw [hsl]; rcases hL with ⟨rfl, rfl⟩ | ⟨rfl, rfl⟩ | ⟨rfl, rfl⟩ <;> decide
  simp -implicitDefEqProofs (disch := omega) only [List.any_cons, List.any_nil, Nat.reduceEqDiff, List.map_cons, List.map_nil, Option.map_some, Option.map_none, List.nil_append, ↓reduceIte, vcu0, vcu1, vcu2, vcu3, vcu4, vcu5, vcu6, vcu7, vcu8, vcu9, vcu10, vcu11, vcu12, vcu13, vcu14, vcu15, vcu16, vcu17, vcu18, vcu19, vcu20, vcu21, vcu22, ↓vcd0, ↓vcd1, ↓vcd2, ↓vcd3, opK_some, he, ne_eq, not_true_eq_false, decide_false]
  refine acodeX_seqV mixed (by kernel_rfl) ?_
  simp -implicitDefEqProofs (disch := omega) only [List.any_cons, List.any_nil, Nat.reduceEqDiff, List.map_cons, List.map_nil, Option.map_some, Option.map_none, List.nil_append, ↓reduceIte, vcu0, vcu1, vcu2, vcu3, vcu4, vcu5, vcu6, vcu7, vcu8, vcu9, vcu10, vcu11, vcu12, vcu13, vcu14, vcu15, vcu16, vcu17, vcu18, vcu19, vcu20, vcu21, vcu22, ↓vcd0, ↓vcd1, ↓vcd2, ↓vcd3, l1]
  refine r_makeI (kx := .i64) (ky := .i64) (l := L) (c := L) el30 (by omega) (by simp -implicitDefEqProofs (disch := omega) only [List.any_cons, List.any_nil, Nat.reduceEqDiff, List.map_cons, List.map_nil, Option.map_some, Option.map_none, List.nil_append, ↓reduceIte, vcu0, vcu1, vcu2, vcu3, vcu4, vcu5, vcu6, vcu7, vcu8, vcu9, vcu10, vcu11, vcu12, vcu13, vcu14, vcu15, vcu16, vcu17, vcu18, vcu19, vcu20, vcu21, vcu22, ↓vcd0, ↓vcd1, ↓vcd2, ↓vcd3]) (by simp -implicitDefEqProofs (disch := omega) only [List.any_cons, List.any_nil, Nat.reduceEqDiff, List.map_cons, List.map_nil, Option.map_some, Option.map_none, List.nil_append, ↓reduceIte, vcu0, vcu1, vcu2, vcu3, vcu4, vcu5, vcu6, vcu7, vcu8, vcu9, vcu10, vcu11, vcu12, vcu13, vcu14, vcu15, vcu16, vcu17, vcu18, vcu19, vcu20, vcu21, vcu22, ↓vcd0, ↓vcd1, ↓vcd2, ↓vcd3]) (by omega) fun g τ2 ng s2 e2 => ?_
  refine r_new ze30 fun c τ3 nc s3 e3 => ?_
  replace e3 : τ3 c = some ⟨[.slice none 0 0], false⟩ := e3
  have hgc : g ≠ c := ne_of' nc e2
  have ncσ : σ c = none := free_sub (s1.trans s2) nc
  have ngσ : σ g = none := free_sub s1 ng
  refine r_set (g := c) (i := 0) (by simp -implicitDefEqProofs (disch := omega) only [List.any_cons, List.any_nil, Nat.reduceEqDiff, List.map_cons, List.map_nil, Option.map_some, Option.map_none, List.nil_append, ↓reduceIte, vcu0, vcu1, vcu2, vcu3, vcu4, vcu5, vcu6, vcu7, vcu8, vcu9, vcu10, vcu11, vcu12, vcu13, vcu14, vcu15, vcu16, vcu17, vcu18, vcu19, vcu20, vcu21, vcu22, ↓vcd0, ↓vcd1, ↓vcd2, ↓vcd3]) (by simp -implicitDefEqProofs (disch := omega) only [List.any_cons, List.any_nil, Nat.reduceEqDiff, List.map_cons, List.map_nil, Option.map_some, Option.map_none, List.nil_append, ↓reduceIte, vcu0, vcu1, vcu2, vcu3, vcu4, vcu5, vcu6, vcu7, vcu8, vcu9, vcu10, vcu11, vcu12, vcu13, vcu14, vcu15, vcu16, vcu17, vcu18, vcu19, vcu20, vcu21, vcu22, ↓vcd0, ↓vcd1, ↓vcd2, ↓vcd3]; rfl) co30 (by simp -implicitDefEqProofs (disch := omega) only [List.any_cons, List.any_nil, Nat.reduceEqDiff, List.map_cons, List.map_nil, Option.map_some, Option.map_none, List.nil_append, ↓reduceIte, vcu0, vcu1, vcu2, vcu3, vcu4, vcu5, vcu6, vcu7, vcu8, vcu9, vcu10, vcu11, vcu12, vcu13, vcu14, vcu15, vcu16, vcu17, vcu18, vcu19, vcu20, vcu21, vcu22, ↓vcd0, ↓vcd1, ↓vcd2, ↓vcd3]; rfl) e3 (by simp) fun τ4 k4 e4 => ?_
  simp -implicitDefEqProofs (disch := omega) only [List.any_cons, List.any_nil, Nat.reduceEqDiff, List.map_cons, List.map_nil, Option.map_some, Option.map_none, List.nil_append, ↓reduceIte, vcu0, vcu1, vcu2, vcu3, vcu4, vcu5, vcu6, vcu7, vcu8, vcu9, vcu10, vcu11, vcu12, vcu13, vcu14, vcu15, vcu16, vcu17, vcu18, vcu19, vcu20, vcu21, vcu22, ↓vcd0, ↓vcd1, ↓vcd2, ↓vcd3] at e4
  replace e4 : τ4 c = some ⟨[.slice (some ⟨g, 0, none⟩) L 1], false⟩ := e4
  have hs4 : Sub σ τ4 := k4.sub (s1.trans (s2.trans s3)) ncσ
  have eb4 : τ4 b = some ⟨[.int .i64 L], false⟩ := k4.at (s3 _ _ (s2 _ _ e1)) (ne_of' nc (s2 _ _ e1))
  have eg4 : τ4 g = some ⟨ints .i64 (List.replicate L 0), false⟩ := k4.at (s3 _ _ e2) hgc
  have hbg : b ≠ g := ne_of' ng e1
  have hbc : b ≠ c := ne_of' nc (s2 _ _ e1)
  clear e1 e2 e3 k4 s1 s2 s3 l1
  simp -implicitDefEqProofs (disch := omega) only [List.any_cons, List.any_nil, Nat.reduceEqDiff, List.map_cons, List.map_nil, Option.map_some, Option.map_none, List.nil_append, ↓reduceIte, vcu0, vcu1, vcu2, vcu3, vcu4, vcu5, vcu6, vcu7, vcu8, vcu9, vcu10, vcu11, vcu12, vcu13, vcu14, vcu15, vcu16, vcu17, vcu18, vcu19, vcu20, vcu21, vcu22, ↓vcd0, ↓vcd1, ↓vcd2, ↓vcd3]
  have l5 : ld τ4 c 0 = some (.slice (some ⟨g, 0, none⟩) L 1) := ld_of e4 rfl
  refine acodeX_seqV mixed (by kernel_rfl) ?_
  simp -implicitDefEqProofs (disch := omega) only [List.any_cons, List.any_nil, Nat.reduceEqDiff, List.map_cons, List.map_nil, Option.map_some, Option.map_none, List.nil_append, ↓reduceIte, vcu0, vcu1, vcu2, vcu3, vcu4, vcu5, vcu6, vcu7, vcu8, vcu9, vcu10, vcu11, vcu12, vcu13, vcu14, vcu15, vcu16, vcu17, vcu18, vcu19, vcu20, vcu21, vcu22, ↓vcd0, ↓vcd1, ↓vcd2, ↓vcd3, l5]
  refine vc_loop_c mixed (by kernel_rfl) [1, 2, 5, 18] (fun m a τ => ∃ k : Nat, m + k = L ∧ a 19 = .int .i64 k ∧ Kept g τ4 τ ∧ τ g = some ⟨ints .i64 (tabI L fun i => if i < k then i else 0), false⟩) L ⟨0, by simp, rfl, Kept.refl _ _, by rw [eg4]; congr 3; rw [← tabI_zero]; exact tabI_congr fun i _ => by simp⟩ ?_
  rintro m a τ hc ⟨k, hk, h19, hkp, hgk⟩
  simp -implicitDefEqProofs (disch := omega) only [List.any_cons, List.any_nil, Nat.reduceEqDiff, List.map_cons, List.map_nil, Option.map_some, Option.map_none, List.nil_append, ↓reduceIte, vcu0, vcu1, vcu2, vcu3, vcu4, vcu5, vcu6, vcu7, vcu8, vcu9, vcu10, vcu11, vcu12, vcu13, vcu14, vcu15, vcu16, vcu17, vcu18, vcu19, vcu20, vcu21, vcu22, ↓vcd0, ↓vcd1, ↓vcd2, ↓vcd3] at hc
  obtain ⟨h1, h2, h5, h18, -⟩ := hc
  have l6 : ld τ c 0 = some (.slice (some ⟨g, 0, none⟩) L 1) := ld_of (hkp.at e4 hgc.symm) rfl
  by_cases hlt : k < L
  · simp -implicitDefEqProofs (disch := omega) only [List.any_cons, List.any_nil, Nat.reduceEqDiff, List.map_cons, List.map_nil, Option.map_some, Option.map_none, List.nil_append, ↓reduceIte, vcu0, vcu1, vcu2, vcu3, vcu4, vcu5, vcu6, vcu7, vcu8, vcu9, vcu10, vcu11, vcu12, vcu13, vcu14, vcu15, vcu16, vcu17, vcu18, vcu19, vcu20, vcu21, vcu22, ↓vcd0, ↓vcd1, ↓vcd2, ↓vcd3, h1, h2, h5, h18, h19, l6]
    refine r_setI (g := g) (i := 0 + k) (v := (k : Int)) (by simp -implicitDefEqProofs (disch := omega) only [List.any_cons, List.any_nil, Nat.reduceEqDiff, List.map_cons, List.map_nil, Option.map_some, Option.map_none, List.nil_append, ↓reduceIte, vcu0, vcu1, vcu2, vcu3, vcu4, vcu5, vcu6, vcu7, vcu8, vcu9, vcu10, vcu11, vcu12, vcu13, vcu14, vcu15, vcu16, vcu17, vcu18, vcu19, vcu20, vcu21, vcu22, ↓vcd0, ↓vcd1, ↓vcd2, ↓vcd3]) (by simp -implicitDefEqProofs (disch := omega) only [List.any_cons, List.any_nil, Nat.reduceEqDiff, List.map_cons, List.map_nil, Option.map_some, Option.map_none, List.nil_append, ↓reduceIte, vcu0, vcu1, vcu2, vcu3, vcu4, vcu5, vcu6, vcu7, vcu8, vcu9, vcu10, vcu11, vcu12, vcu13, vcu14, vcu15, vcu16, vcu17, vcu18, vcu19, vcu20, vcu21, vcu22, ↓vcd0, ↓vcd1, ↓vcd2, ↓vcd3]) co3 hgk (by rw [tabI_length]; omega) fun τ2 k2 e2 => ?_
    rw [Nat.zero_add, tabI_set] at e2
    simp -implicitDefEqProofs (disch := omega) only [List.any_cons, List.any_nil, Nat.reduceEqDiff, List.map_cons, List.map_nil, Option.map_some, Option.map_none, List.nil_append, ↓reduceIte, vcu0, vcu1, vcu2, vcu3, vcu4, vcu5, vcu6, vcu7, vcu8, vcu9, vcu10, vcu11, vcu12, vcu13, vcu14, vcu15, vcu16, vcu17, vcu18, vcu19, vcu20, vcu21, vcu22, ↓vcd0, ↓vcd1, ↓vcd2, ↓vcd3, h1, h2, h5, h18, h19]
    refine ⟨⟨trivial, trivial, trivial, trivial, trivial⟩, m - 1, by omega, k + 1, by omega, by simp, hkp.trans k2, ?_⟩
    rw [e2]
    congr 3
    refine tabI_congr fun i _ => ?_
    by_cases ei : i = k
    · subst ei; simp
    · rw [if_neg ei]
      by_cases h2 : i < k
      · rw [if_pos h2, if_pos (by omega)]
      · rw [if_neg h2, if_neg (by omega)]
  obtain rfl : L = k := by omega
  clear hlt hk
  -- the rounds
  have hs5 : Sub σ τ := hkp.sub hs4 ngσ
  have eb5 := hkp.at eb4 hbg
  have ec5 := hkp.at e4 hgc.symm
  have hro5 := hs5 _ _ hro
  clear hs4 eb4 e4 eg4 hkp l5
  have hg5 : τ g = some ⟨ints .i64 (tabI L fun i => pos L (cOf set) i 0), false⟩ := by
    rw [hgk]; congr 3
    exact tabI_congr fun i hi => by rw [if_pos hi]; rfl
  clear hgk
  simp -implicitDefEqProofs (disch := omega) only [List.any_cons, List.any_nil, Nat.reduceEqDiff, List.map_cons, List.map_nil, Option.map_some, Option.map_none, List.nil_append, ↓reduceIte, vcu0, vcu1, vcu2, vcu3, vcu4, vcu5, vcu6, vcu7, vcu8, vcu9, vcu10, vcu11, vcu12, vcu13, vcu14, vcu15, vcu16, vcu17, vcu18, vcu19, vcu20, vcu21, vcu22, ↓vcd0, ↓vcd1, ↓vcd2, ↓vcd3, h1, h2, h5, h18, h19]
  refine acodeX_seqXV mixed (by kernel_rfl) ?_
  refine acodeX_seqV mixed (by kernel_rfl) ?_
  have lb5 : ld τ b 0 = some (.int .i64 L) := ld_of eb5 rfl
  have hhalf : (L : Int) / 2 = ((L / 2 : Nat) : Int) := by omega
  simp -implicitDefEqProofs (disch := omega) only [List.any_cons, List.any_nil, Nat.reduceEqDiff, List.map_cons, List.map_nil, Option.map_some, Option.map_none, List.nil_append, ↓reduceIte, vcu0, vcu1, vcu2, vcu3, vcu4, vcu5, vcu6, vcu7, vcu8, vcu9, vcu10, vcu11, vcu12, vcu13, vcu14, vcu15, vcu16, vcu17, vcu18, vcu19, vcu20, vcu21, vcu22, ↓vcd0, ↓vcd1, ↓vcd2, ↓vcd3, h1, h2, h5, lb5, hhalf]
  refine (chunk_at τ _ _ (by omega) (by rfl)).mono ?_
  rintro _ τ6 ⟨b1, b2, rfl, s6, v1, v2, n1, n2, hb12⟩
  simp -implicitDefEqProofs (disch := omega) only [List.any_cons, List.any_nil, Nat.reduceEqDiff, List.map_cons, List.map_nil, Option.map_some, Option.map_none, List.nil_append, ↓reduceIte, vcu0, vcu1, vcu2, vcu3, vcu4, vcu5, vcu6, vcu7, vcu8, vcu9, vcu10, vcu11, vcu12, vcu13, vcu14, vcu15, vcu16, vcu17, vcu18, vcu19, vcu20, vcu21, vcu22, ↓vcd0, ↓vcd1, ↓vcd2, ↓vcd3, opK_some]
  refine acodeX_block ?_
  refine acodeX_range (gf := 82) (caps := #[.pointer (some ⟨b1, 0, none⟩), .pointer (some ⟨b2, 0, none⟩)]) mixed rfl .ret rfl rfl (by simp -implicitDefEqProofs (disch := omega) only [List.any_cons, List.any_nil, Nat.reduceEqDiff, List.map_cons, List.map_nil, Option.map_some, Option.map_none, List.nil_append, ↓reduceIte, vcu0, vcu1, vcu2, vcu3, vcu4, vcu5, vcu6, vcu7, vcu8, vcu9, vcu10, vcu11, vcu12, vcu13, vcu14, vcu15, vcu16, vcu17, vcu18, vcu19, vcu20, vcu21, vcu22, ↓vcd0, ↓vcd1, ↓vcd2, ↓vcd3]) (by kernel_rfl) (by kernel_rfl) (by kernel_rfl) fun pr1 l G G' hGG nG nG' hY => ?_
  have hsg := sub_signs nG nG'
  have hgG : g ≠ G := ne_of' nG (s6 _ _ hg5)
  have hgG' : g ≠ G' := ne_of' nG' (s6 _ _ hg5)
  have hgb1 : g ≠ b1 := ne_of' n1 hg5
  have hgb2 : g ≠ b2 := ne_of' n2 hg5
  have hgh : g ≠ h := by rintro rfl; rw [hro] at ngσ; cases ngσ
  have hcs : ∀ i, i < set.length → cs[o + i]? = some (.bool (set.getD i false)) := fun i hi => by
    have := hv i hi
    unfold ld at this
    rw [hro] at this
    exact this
  refine (chunk_iter b1 b2 h o set (L / 2) lg cs (by have := half_pos hL; omega) hsl (by omega) (fun k τ' => Kept g τ6 τ' ∧ τ' G = on ∧ τ' G' = off ∧ τ' g = some ⟨ints .i64 (tabI L fun i => pos L (cOf set) i k), false⟩) (fun _ => False)
    ⟨hsg.kept, by rw [AHeap.upd_ne _ _ hGG, AHeap.upd_same], AHeap.upd_same _ _ _, hsg _ _ (s6 _ _ hg5)⟩ (fun k τ' hI => ⟨hI.1.at v1 hgb1.symm, hI.1.at v2 hgb2.symm, hI.1.at (s6 _ _ hro5) hgh.symm⟩) hcs ?_).mono ?_
  · rintro s hs τ0 τ7 x ⟨hK, hG, hG', hgs⟩ nx s7 hxs
    refine hY _ τ7 _ rfl (s7 _ _ hG) (s7 _ _ hG') fun prb => ?_
    simp -implicitDefEqProofs (disch := omega) only [List.any_cons, List.any_nil, Nat.reduceEqDiff, List.map_cons, List.map_nil, Option.map_some, Option.map_none, List.nil_append, ↓reduceIte, vcu0, vcu1, vcu2, vcu3, vcu4, vcu5, vcu6, vcu7, vcu8, vcu9, vcu10, vcu11, vcu12, vcu13, vcu14, vcu15, vcu16, vcu17, vcu18, vcu19, vcu20, vcu21, vcu22, ↓vcd0, ↓vcd1, ↓vcd2, ↓vcd3, List.toList_toArray, afill_cons, afill_nil]
    refine assign_normal (s7 _ _ hG) (s7 _ _ hG') ?_
    have hc7 : τ7 c = some ⟨[.slice (some ⟨g, 0, none⟩) L 1], false⟩ := s7 _ _ (hK.at (s6 _ _ ec5) hgc.symm)
    have hb7 : τ7 b = some ⟨[.int .i64 L], false⟩ := s7 _ _ (hK.at (s6 _ _ eb5) hbg)
    have hg7 := s7 _ _ hgs
    have hG7 := s7 _ _ hG
    have hG7' := s7 _ _ hG'
    have hK7 : Kept g τ6 τ7 := hK.trans s7.kept
    have hgx : g ≠ x := ne_of' nx hgs
    have lc7 : ld τ7 c 0 = some (.slice (some ⟨g, 0, none⟩) L 1) := ld_of hc7 rfl
    simp -implicitDefEqProofs (disch := omega) only [List.any_cons, List.any_nil, Nat.reduceEqDiff, List.map_cons, List.map_nil, Option.map_some, Option.map_none, List.nil_append, ↓reduceIte, vcu0, vcu1, vcu2, vcu3, vcu4, vcu5, vcu6, vcu7, vcu8, vcu9, vcu10, vcu11, vcu12, vcu13, vcu14, vcu15, vcu16, vcu17, vcu18, vcu19, vcu20, vcu21, vcu22, ↓vcd0, ↓vcd1, ↓vcd2, ↓vcd3, h5, lc7]
    refine vc_loop_c mixed (by kernel_rfl) [2, 5, 7, 32, 33] (fun m a τ' => ∃ k : Nat, m + k = L ∧ a 34 = .int .i64 k ∧ Kept g τ7 τ' ∧ τ' g = some ⟨ints .i64 (tabI L fun i => if i < k then pos L (cOf set) i (s + 1) else pos L (cOf set) i s), false⟩) L ⟨0, by simp, rfl, Kept.refl _ _, by rw [hg7]; congr 3⟩ ?_
    rintro m2 a2 τ8 hc2 ⟨k, hk, h34, hk8, hg8⟩
    simp -implicitDefEqProofs (disch := omega) only [List.any_cons, List.any_nil, Nat.reduceEqDiff, List.map_cons, List.map_nil, Option.map_some, Option.map_none, List.nil_append, ↓reduceIte, vcu0, vcu1, vcu2, vcu3, vcu4, vcu5, vcu6, vcu7, vcu8, vcu9, vcu10, vcu11, vcu12, vcu13, vcu14, vcu15, vcu16, vcu17, vcu18, vcu19, vcu20, vcu21, vcu22, ↓vcd0, ↓vcd1, ↓vcd2, ↓vcd3, h2, h5] at hc2
    obtain ⟨g2, g5, g7, g32, g33, -⟩ := hc2
    have hc8 := hk8.at hc7 hgc.symm
    have hb8 := hk8.at hb7 hbg
    have lc8 : ld τ8 c 0 = some (.slice (some ⟨g, 0, none⟩) L 1) := ld_of hc8 rfl
    have lb8 : ld τ8 b 0 = some (.int .i64 L) := ld_of hb8 rfl
    have hx8 : BoolsAt τ8 x 0 ((set.drop (s * (L / 2))).take (L / 2)) := fun i hi => by
      have := hxs i hi
      unfold ld at this ⊢
      cases hxo : τ7 x with
      | none => rw [hxo] at this; cases this
      | some ob => rw [hk8.at hxo hgx.symm]; rw [hxo] at this; exact this
    by_cases hlt : k < L
    · have hx := pos_lt hL (cOf set) hlt s
      have hX := sh_lt hL hx
      have hst := pos_succ L (cOf set) k s
      have lk := intsAt_own hg8 k (by rw [tabI_length]; omega)
      rw [tabI_getD hlt, if_neg (by omega)] at lk
      have hsh := fun (τ : AHeap) => shifted_at (w0 := w0) τ L lg (pos L (cOf set) k s) hL hx
      have hlen8 : (tabI L fun i => if i < k then pos L (cOf set) i (s + 1) else pos L (cOf set) i s).length = L := tabI_length _ _
      generalize hxx : pos L (cOf set) k s = y at *
      generalize hXX : sh L y = X at *
      simp -implicitDefEqProofs (disch := omega) only [List.any_cons, List.any_nil, Nat.reduceEqDiff, List.map_cons, List.map_nil, Option.map_some, Option.map_none, List.nil_append, ↓reduceIte, vcu0, vcu1, vcu2, vcu3, vcu4, vcu5, vcu6, vcu7, vcu8, vcu9, vcu10, vcu11, vcu12, vcu13, vcu14, vcu15, vcu16, vcu17, vcu18, vcu19, vcu20, vcu21, vcu22, ↓vcd0, ↓vcd1, ↓vcd2, ↓vcd3, g2, g5, g7, g32, g33, h34, lk]
      refine region_tree mixed (quiets [0, 1, 2, 3] (.one 4 (quiets [5] (.one 6 .stop)))) [([0, 1, 2, 3], Sub τ8)] (by kernel_rfl) (by kernel_rfl) (fun p hp => by simp only [List.mem_singleton] at hp; subst hp; exact Sub.refl _) ?_
      refine tree_quiets τ8 _ _ _ sf1 (by kernel_rfl) (by kernel_rfl) ?_
      simp -implicitDefEqProofs (disch := omega) only [List.any_cons, List.any_nil, Nat.reduceEqDiff, List.map_cons, List.map_nil, Option.map_some, Option.map_none, List.nil_append, ↓reduceIte, vcu0, vcu1, vcu2, vcu3, vcu4, vcu5, vcu6, vcu7, vcu8, vcu9, vcu10, vcu11, vcu12, vcu13, vcu14, vcu15, vcu16, vcu17, vcu18, vcu19, vcu20, vcu21, vcu22, ↓vcd0, ↓vcd1, ↓vcd2, ↓vcd3, pickOps_nil, pickOps_cons, pickO_some, List.getElem?_cons_succ, List.getElem?_cons_zero, g2, g5, lc8, lb8]
      refine tree_one rfl ?_
      simp -implicitDefEqProofs (disch := omega) only [List.any_cons, List.any_nil, Nat.reduceEqDiff, List.map_cons, List.map_nil, Option.map_some, Option.map_none, List.nil_append, ↓reduceIte, vcu0, vcu1, vcu2, vcu3, vcu4, vcu5, vcu6, vcu7, vcu8, vcu9, vcu10, vcu11, vcu12, vcu13, vcu14, vcu15, vcu16, vcu17, vcu18, vcu19, vcu20, vcu21, vcu22, ↓vcd0, ↓vcd1, ↓vcd2, ↓vcd3]
      refine (hsh τ8).mono ?_
      rintro r _ ⟨rfl, rfl⟩
      rename_i τ8
      simp -implicitDefEqProofs (disch := omega) only [List.any_cons, List.any_nil, Nat.reduceEqDiff, List.map_cons, List.map_nil, Option.map_some, Option.map_none, List.nil_append, ↓reduceIte, vcu0, vcu1, vcu2, vcu3, vcu4, vcu5, vcu6, vcu7, vcu8, vcu9, vcu10, vcu11, vcu12, vcu13, vcu14, vcu15, vcu16, vcu17, vcu18, vcu19, vcu20, vcu21, vcu22, ↓vcd0, ↓vcd1, ↓vcd2, ↓vcd3, opK_some]
      refine ⟨.inl rfl, ?_⟩
      refine tree_quiets (fun _ => none) _ _ _ (fun _ _ _ _ => fun x ob e => by cases e) (by kernel_rfl) (by kernel_rfl) ?_
      simp -implicitDefEqProofs (disch := omega) only [List.any_cons, List.any_nil, Nat.reduceEqDiff, List.map_cons, List.map_nil, Option.map_some, Option.map_none, List.nil_append, ↓reduceIte, vcu0, vcu1, vcu2, vcu3, vcu4, vcu5, vcu6, vcu7, vcu8, vcu9, vcu10, vcu11, vcu12, vcu13, vcu14, vcu15, vcu16, vcu17, vcu18, vcu19, vcu20, vcu21, vcu22, ↓vcd0, ↓vcd1, ↓vcd2, ↓vcd3, pickOps_nil, pickOps_cons, pickO_some, List.getElem?_cons_succ, List.getElem?_cons_zero]
      refine tree_one rfl ?_
      refine r_setI (g := g) (i := 0 + k) (v := (X : Int)) (by simp -implicitDefEqProofs (disch := omega) only [List.any_cons, List.any_nil, Nat.reduceEqDiff, List.map_cons, List.map_nil, Option.map_some, Option.map_none, List.nil_append, ↓reduceIte, vcu0, vcu1, vcu2, vcu3, vcu4, vcu5, vcu6, vcu7, vcu8, vcu9, vcu10, vcu11, vcu12, vcu13, vcu14, vcu15, vcu16, vcu17, vcu18, vcu19, vcu20, vcu21, vcu22, ↓vcd0, ↓vcd1, ↓vcd2, ↓vcd3]) (by simp -implicitDefEqProofs (disch := omega) only [List.any_cons, List.any_nil, Nat.reduceEqDiff, List.map_cons, List.map_nil, Option.map_some, Option.map_none, List.nil_append, ↓reduceIte, vcu0, vcu1, vcu2, vcu3, vcu4, vcu5, vcu6, vcu7, vcu8, vcu9, vcu10, vcu11, vcu12, vcu13, vcu14, vcu15, vcu16, vcu17, vcu18, vcu19, vcu20, vcu21, vcu22, ↓vcd0, ↓vcd1, ↓vcd2, ↓vcd3]) co3 hg8 (by omega) fun τ9 k9 e9 => ?_
      simp -implicitDefEqProofs (disch := omega) only [List.any_cons, List.any_nil, Nat.reduceEqDiff, List.map_cons, List.map_nil, Option.map_some, Option.map_none, List.nil_append, ↓reduceIte, vcu0, vcu1, vcu2, vcu3, vcu4, vcu5, vcu6, vcu7, vcu8, vcu9, vcu10, vcu11, vcu12, vcu13, vcu14, vcu15, vcu16, vcu17, vcu18, vcu19, vcu20, vcu21, vcu22, ↓vcd0, ↓vcd1, ↓vcd2, ↓vcd3]
      refine ⟨keep_of rfl (fun p hp => by simp only [List.mem_singleton] at hp; subst hp; exact .inl (by kernel_rfl)), tree_stop ?_⟩
      have hc9 := k9.at hc8 hgc.symm
      have lc9 : ld τ9 c 0 = some (.slice (some ⟨g, 0, none⟩) L 1) := ld_of hc9 rfl
      rw [Nat.zero_add, tabI_set] at e9
      have lk9 := intsAt_own e9 k (by rw [tabI_length]; omega)
      rw [tabI_getD hlt, if_pos rfl] at lk9
      have hx9 : BoolsAt τ9 x 0 ((set.drop (s * (L / 2))).take (L / 2)) := fun i hi => by
        have := hx8 i hi
        unfold ld at this ⊢
        cases hxo : τ8 x with
        | none => rw [hxo] at this; cases this
        | some ob => rw [k9.at hxo hgx.symm]; rw [hxo] at this; exact this
      have hX2 : X / 2 < L / 2 := half_lt hL hX
      have hsl2 : s * (L / 2) + L / 2 ≤ set.length := by rw [hsl, Nat.mul_comm]; rw [← Nat.mul_succ]; exact Nat.mul_le_mul_left _ (by omega)
      have lx := hx9 (X / 2) (by simp only [List.length_take, List.length_drop]; omega)
      rw [drop_take hL hs hsl hX2] at lx
      have eX : (X : Int) / 2 = ((X / 2 : Nat) : Int) := by omega
      have fin9 : ∀ (τ : AHeap) (v : Nat), v = pos L (cOf set) k (s + 1) → τ g = some ⟨ints .i64 (tabI L fun j => if j = k then v else if j < k then pos L (cOf set) j (s + 1) else pos L (cOf set) j s), false⟩ → τ g = some ⟨ints .i64 (tabI L fun i => if i < k + 1 then pos L (cOf set) i (s + 1) else pos L (cOf set) i s), false⟩ := fun τ v hv e => by
        rw [e]; congr 3
        refine tabI_congr fun i _ => ?_
        by_cases ei : i = k
        · subst ei; rw [if_pos rfl, if_pos (by omega), hv]
        · rw [if_neg ei]
          by_cases h2 : i < k
          · rw [if_pos h2, if_pos (by omega)]
          · rw [if_neg h2, if_neg (by omega)]
      simp -implicitDefEqProofs (disch := omega) only [List.any_cons, List.any_nil, Nat.reduceEqDiff, List.map_cons, List.map_nil, Option.map_some, Option.map_none, List.nil_append, ↓reduceIte, vcu0, vcu1, vcu2, vcu3, vcu4, vcu5, vcu6, vcu7, vcu8, vcu9, vcu10, vcu11, vcu12, vcu13, vcu14, vcu15, vcu16, vcu17, vcu18, vcu19, vcu20, vcu21, vcu22, ↓vcd0, ↓vcd1, ↓vcd2, ↓vcd3, g2, g5, g7, g32, g33, h34, lc9, lk9, eX, lx, Int.toNat_natCast]
      cases hcb : cOf set (s * (L / 2) + X / 2) with
      | true =>
        rw [hcb, sw_true] at hst
        have hx1 := xor_one (X := X) (by omega)
        simp -implicitDefEqProofs (disch := omega) only [List.any_cons, List.any_nil, Nat.reduceEqDiff, List.map_cons, List.map_nil, Option.map_some, Option.map_none, List.nil_append, ↓reduceIte, vcu0, vcu1, vcu2, vcu3, vcu4, vcu5, vcu6, vcu7, vcu8, vcu9, vcu10, vcu11, vcu12, vcu13, vcu14, vcu15, vcu16, vcu17, vcu18, vcu19, vcu20, vcu21, vcu22, ↓vcd0, ↓vcd1, ↓vcd2, ↓vcd3, g2, g5, g7, g32, g33, h34, lc9, lk9, abin_xor', hx1]
        refine r_setI (g := g) (i := 0 + k) (v := ((fl X : Nat) : Int)) (by simp -implicitDefEqProofs (disch := omega) only [List.any_cons, List.any_nil, Nat.reduceEqDiff, List.map_cons, List.map_nil, Option.map_some, Option.map_none, List.nil_append, ↓reduceIte, vcu0, vcu1, vcu2, vcu3, vcu4, vcu5, vcu6, vcu7, vcu8, vcu9, vcu10, vcu11, vcu12, vcu13, vcu14, vcu15, vcu16, vcu17, vcu18, vcu19, vcu20, vcu21, vcu22, ↓vcd0, ↓vcd1, ↓vcd2, ↓vcd3]) (by simp -implicitDefEqProofs (disch := omega) only [List.any_cons, List.any_nil, Nat.reduceEqDiff, List.map_cons, List.map_nil, Option.map_some, Option.map_none, List.nil_append, ↓reduceIte, vcu0, vcu1, vcu2, vcu3, vcu4, vcu5, vcu6, vcu7, vcu8, vcu9, vcu10, vcu11, vcu12, vcu13, vcu14, vcu15, vcu16, vcu17, vcu18, vcu19, vcu20, vcu21, vcu22, ↓vcd0, ↓vcd1, ↓vcd2, ↓vcd3]) co3 e9 (by rw [tabI_length]; omega) fun τ10 k10 e10 => ?_
        rw [Nat.zero_add, tabI_set] at e10
        simp -implicitDefEqProofs (disch := omega) only [List.any_cons, List.any_nil, Nat.reduceEqDiff, List.map_cons, List.map_nil, Option.map_some, Option.map_none, List.nil_append, ↓reduceIte, vcu0, vcu1, vcu2, vcu3, vcu4, vcu5, vcu6, vcu7, vcu8, vcu9, vcu10, vcu11, vcu12, vcu13, vcu14, vcu15, vcu16, vcu17, vcu18, vcu19, vcu20, vcu21, vcu22, ↓vcd0, ↓vcd1, ↓vcd2, ↓vcd3, g2, g5, g7, g32, g33, h34]
        refine ⟨⟨h2.symm, h5.symm, trivial, trivial, trivial, trivial⟩, m2 - 1, by omega, k + 1, by omega, by simp, (hk8.trans k9).trans k10, fin9 τ10 (fl X) hst.symm ?_⟩
        rw [e10]; congr 3
        exact tabI_congr fun i _ => by by_cases ei : i = k <;> simp [ei]
      | false =>
        rw [hcb, sw_false] at hst
        simp -implicitDefEqProofs (disch := omega) only [List.any_cons, List.any_nil, Nat.reduceEqDiff, List.map_cons, List.map_nil, Option.map_some, Option.map_none, List.nil_append, ↓reduceIte, vcu0, vcu1, vcu2, vcu3, vcu4, vcu5, vcu6, vcu7, vcu8, vcu9, vcu10, vcu11, vcu12, vcu13, vcu14, vcu15, vcu16, vcu17, vcu18, vcu19, vcu20, vcu21, vcu22, ↓vcd0, ↓vcd1, ↓vcd2, ↓vcd3, g2, g5, g7, g32, g33, h34]
        refine ⟨⟨h2.symm, h5.symm, trivial, trivial, trivial, trivial⟩, m2 - 1, by omega, k + 1, by omega, by simp, hk8.trans k9, fin9 τ9 X hst.symm e9⟩
    · have ek : k = L := by omega
      subst ek
      simp -implicitDefEqProofs (disch := omega) only [List.any_cons, List.any_nil, Nat.reduceEqDiff, List.map_cons, List.map_nil, Option.map_some, Option.map_none, List.nil_append, ↓reduceIte, vcu0, vcu1, vcu2, vcu3, vcu4, vcu5, vcu6, vcu7, vcu8, vcu9, vcu10, vcu11, vcu12, vcu13, vcu14, vcu15, vcu16, vcu17, vcu18, vcu19, vcu20, vcu21, vcu22, ↓vcd0, ↓vcd1, ↓vcd2, ↓vcd3, g2, g5, g7, g32, g33, h34]
      refine round_normal (hk8.at hG7 hgG.symm) (hk8.at hG7' hgG'.symm) (.inl ⟨rfl, hK7.trans hk8, hk8.at hG7 hgG.symm, hk8.at hG7' hgG'.symm, ?_⟩)
      rw [hg8]; congr 3
      exact tabI_congr fun i hi => by rw [if_pos hi]
  · rintro _ τ8 (⟨hK, hG, hG', hgs⟩ | hf)
    · refine .inl ⟨hG, ?_⟩
      have hc8 := hK.at (s6 _ _ ec5) hgc.symm
      have lc8 : ld τ8 c 0 = some (.slice (some ⟨g, 0, none⟩) L 1) := ld_of hc8 rfl
      simp -implicitDefEqProofs (disch := omega) only [List.any_cons, List.any_nil, Nat.reduceEqDiff, List.map_cons, List.map_nil, Option.map_some, Option.map_none, List.nil_append, ↓reduceIte, vcu0, vcu1, vcu2, vcu3, vcu4, vcu5, vcu6, vcu7, vcu8, vcu9, vcu10, vcu11, vcu12, vcu13, vcu14, vcu15, vcu16, vcu17, vcu18, vcu19, vcu20, vcu21, vcu22, ↓vcd0, ↓vcd1, ↓vcd2, ↓vcd3]
      intro n' hn'
      simp -implicitDefEqProofs (disch := omega) only [List.any_cons, List.any_nil, Nat.reduceEqDiff, List.map_cons, List.map_nil, Option.map_some, Option.map_none, List.nil_append, ↓reduceIte, vcu0, vcu1, vcu2, vcu3, vcu4, vcu5, vcu6, vcu7, vcu8, vcu9, vcu10, vcu11, vcu12, vcu13, vcu14, vcu15, vcu16, vcu17, vcu18, vcu19, vcu20, vcu21, vcu22, ↓vcd0, ↓vcd1, ↓vcd2, ↓vcd3, h5, lc8]
      refine finC_one Try.results42 (Sub.refl _) (v := .slice (some ⟨g, 0, none⟩) L 1) ?_ (.inr ⟨g, ?_, hgs, ngσ⟩)
      · simp -implicitDefEqProofs (disch := omega) only [List.any_cons, List.any_nil, Nat.reduceEqDiff, List.map_cons, List.map_nil, Option.map_some, Option.map_none, List.nil_append, ↓reduceIte, vcu0, vcu1, vcu2, vcu3, vcu4, vcu5, vcu6, vcu7, vcu8, vcu9, vcu10, vcu11, vcu12, vcu13, vcu14, vcu15, vcu16, vcu17, vcu18, vcu19, vcu20, vcu21, vcu22, ↓vcd0, ↓vcd1, ↓vcd2, ↓vcd3]
      · rw [runN_length]
    · exact hf.elim
theorem implRun_at (σ : AHeap) (z : Int) (h o : Nat) (set : List Bool) (hv : BoolsAt σ h o set) (hl : set.length ≤ 1048576) (hh : ∃ ob, σ h = some ob) :
    ACall Try.prog w0 42 [.int .i64 z, .slice (some ⟨h, o, none⟩) set.length 1] σ fun r σ' => Sub σ σ' ∧ OwnI σ σ' r (runV z set) := by
  obtain ⟨ob, hob⟩ := hh
  exact ACall.frameI fun w => implRun_ro (w0 := w) (froz σ) z h o ob.cells set (froz_at hob) hv.froz hl
end Go.Proofs.Ytgieeafdgdkkcaa

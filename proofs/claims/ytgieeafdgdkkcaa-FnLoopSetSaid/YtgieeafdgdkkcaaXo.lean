/- What settings of the loop network realise: LoopRun, of the reference and of the program. -/
import Derived.Test.YtgieeafdgdkkcaaXg
set_option linter.unusedSimpArgs false
set_option linter.unusedVariables false
namespace Go.Proofs.Ytgieeafdgdkkcaa
open Go Go.Abs Go.RowKit Go.Ban
variable {w0 : World}

def dOf (set : List Bool) (i : Nat) : Bool := set.getD i false
def lrN (l : Nat) (set : List Bool) : List Int := tabI (2 ^ (l + 1)) (lr (l + 1) (dOf set))
theorem lrN_length (l : Nat) (set : List Bool) : (lrN l set).length = 2 ^ (l + 1) := tabI_length _ _
theorem lvl {l : Nat} (h : l ≤ 2) : Ls (2 ^ (l + 1)) (l + 1) := by
  have : l = 0 ∨ l = 1 ∨ l = 2 := by omega
  rcases this with rfl | rfl | rfl
  · exact .inl ⟨rfl, rfl⟩
  · exact .inr (.inl ⟨rfl, rfl⟩)
  · exact .inr (.inr ⟨rfl, rfl⟩)
theorem ls_lvl {L lg : Nat} (h : Ls L lg) : ∃ l, l ≤ 2 ∧ lg = l + 1 ∧ L = 2 ^ (l + 1) := by
  rcases h with ⟨rfl, rfl⟩ | ⟨rfl, rfl⟩ | ⟨rfl, rfl⟩
  · exact ⟨0, by omega, rfl, rfl⟩
  · exact ⟨1, by omega, rfl, rfl⟩
  · exact ⟨2, by omega, rfl, rfl⟩
/-- what a part of the settings is -/
theorem part_of {set : List Bool} {H P : Nat} {l : Nat} (hP : P = many (l + 1)) {k : Nat} (hk : k < 2 ^ (l + 1)) : lr (l + 1) (dOf ((set.drop H).take P)) k = lr (l + 1) (fun j => dOf set (H + j)) k :=
  lr_congr l (fun j hj => by unfold dOf; simp [List.getD, List.getElem?_take, hP, hj]) k hk
theorem part_len {set : List Bool} {H P : Nat} (h : H + P ≤ set.length) : ((set.drop H).take P).length = P := by simp; omega

theorem specLr_at : ∀ (l : Nat), l ≤ 2 → ∀ (σ : AHeap) (h o : Nat) (set : List Bool), BoolsAt σ h o set → set.length = many (l + 1) →
    ACall Try.prog w0 63 [.int .i64 ((2 ^ (l + 1) : Nat) : Int), .slice (some ⟨h, o, none⟩) set.length 1] σ fun r σ' => Sub σ σ' ∧ OwnI σ σ' r (lrN l set) := by
  intro l
  induction l with
  | zero =>
    intro _ σ h o set hv hl
    have h1 : set.length = 1 := hl
    have e2 : ((2 ^ (0 + 1) : Nat) : Int) = 2 := rfl
    have lx := hv 0 (by omega)
    have hd : set.getD 0 false = dOf set 0 := rfl
    rw [hd] at lx
    rw [e2]
    refine acall_go mixed Try.func63 rfl good63 fun pr => ?_
    simp -implicitDefEqProofs (disch := omega) only [List.any_cons, List.any_nil, Nat.reduceEqDiff, List.map_cons, List.map_nil, Option.map_some, Option.map_none, List.nil_append, ↓reduceIte, vcu0, vcu1, vcu2, vcu3, vcu4, vcu5, vcu6, vcu7, vcu8, vcu9, vcu10, vcu11, vcu12, vcu13, vcu14, vcu15, vcu16, vcu17, vcu18, vcu19, vcu20, vcu21, vcu22, ↓vcd0, ↓vcd1, ↓vcd2, ↓vcd3, h1]
    refine r_makeI (kx := .i64) (ky := .i64) (l := 2) (c := 2) el30 (by omega) (by simp -implicitDefEqProofs (disch := omega) only [List.any_cons, List.any_nil, Nat.reduceEqDiff, List.map_cons, List.map_nil, Option.map_some, Option.map_none, List.nil_append, ↓reduceIte, vcu0, vcu1, vcu2, vcu3, vcu4, vcu5, vcu6, vcu7, vcu8, vcu9, vcu10, vcu11, vcu12, vcu13, vcu14, vcu15, vcu16, vcu17, vcu18, vcu19, vcu20, vcu21, vcu22, ↓vcd0, ↓vcd1, ↓vcd2, ↓vcd3]; rfl) (by simp -implicitDefEqProofs (disch := omega) only [List.any_cons, List.any_nil, Nat.reduceEqDiff, List.map_cons, List.map_nil, Option.map_some, Option.map_none, List.nil_append, ↓reduceIte, vcu0, vcu1, vcu2, vcu3, vcu4, vcu5, vcu6, vcu7, vcu8, vcu9, vcu10, vcu11, vcu12, vcu13, vcu14, vcu15, vcu16, vcu17, vcu18, vcu19, vcu20, vcu21, vcu22, ↓vcd0, ↓vcd1, ↓vcd2, ↓vcd3]; rfl) (by omega) fun g τ ng s1 e1 => ?_
    have lx1 := ld_sub s1 lx
    cases hc : dOf set 0 with
    | true =>
      rw [hc] at lx1
      simp -implicitDefEqProofs (disch := omega) only [List.any_cons, List.any_nil, Nat.reduceEqDiff, List.map_cons, List.map_nil, Option.map_some, Option.map_none, List.nil_append, ↓reduceIte, vcu0, vcu1, vcu2, vcu3, vcu4, vcu5, vcu6, vcu7, vcu8, vcu9, vcu10, vcu11, vcu12, vcu13, vcu14, vcu15, vcu16, vcu17, vcu18, vcu19, vcu20, vcu21, vcu22, ↓vcd0, ↓vcd1, ↓vcd2, ↓vcd3, h1, lx1, Int.toNat_zero]
      refine r_lit el30 (out := #[.int .i64 1, .int .i64 0]) (by first | kernel_rfl | (simp -implicitDefEqProofs (disch := omega) only [List.any_cons, List.any_nil, Nat.reduceEqDiff, List.map_cons, List.map_nil, Option.map_some, Option.map_none, List.nil_append, ↓reduceIte, vcu0, vcu1, vcu2, vcu3, vcu4, vcu5, vcu6, vcu7, vcu8, vcu9, vcu10, vcu11, vcu12, vcu13, vcu14, vcu15, vcu16, vcu17, vcu18, vcu19, vcu20, vcu21, vcu22, ↓vcd0, ↓vcd1, ↓vcd2, ↓vcd3]; kernel_rfl)) (by rfl) fun e τ2 n2 s2 v2 => ?_
      simp -implicitDefEqProofs (disch := omega) only [List.any_cons, List.any_nil, Nat.reduceEqDiff, List.map_cons, List.map_nil, Option.map_some, Option.map_none, List.nil_append, ↓reduceIte, vcu0, vcu1, vcu2, vcu3, vcu4, vcu5, vcu6, vcu7, vcu8, vcu9, vcu10, vcu11, vcu12, vcu13, vcu14, vcu15, vcu16, vcu17, vcu18, vcu19, vcu20, vcu21, vcu22, ↓vcd0, ↓vcd1, ↓vcd2, ↓vcd3]
      refine fin_one Try.results63 ⟨s1.trans s2, .inr ⟨e, ?_, ?_, free_sub s1 n2⟩⟩
      · simp -implicitDefEqProofs (disch := omega) only [List.any_cons, List.any_nil, Nat.reduceEqDiff, List.map_cons, List.map_nil, Option.map_some, Option.map_none, List.nil_append, ↓reduceIte, vcu0, vcu1, vcu2, vcu3, vcu4, vcu5, vcu6, vcu7, vcu8, vcu9, vcu10, vcu11, vcu12, vcu13, vcu14, vcu15, vcu16, vcu17, vcu18, vcu19, vcu20, vcu21, vcu22, ↓vcd0, ↓vcd1, ↓vcd2, ↓vcd3]
        rfl
      · rw [v2]
        have : lrN 0 set = [1, 0] := by simp [lrN, tabI, lr, hc, List.range_succ]
        rw [this]; rfl
    | false =>
      rw [hc] at lx1
      simp -implicitDefEqProofs (disch := omega) only [List.any_cons, List.any_nil, Nat.reduceEqDiff, List.map_cons, List.map_nil, Option.map_some, Option.map_none, List.nil_append, ↓reduceIte, vcu0, vcu1, vcu2, vcu3, vcu4, vcu5, vcu6, vcu7, vcu8, vcu9, vcu10, vcu11, vcu12, vcu13, vcu14, vcu15, vcu16, vcu17, vcu18, vcu19, vcu20, vcu21, vcu22, ↓vcd0, ↓vcd1, ↓vcd2, ↓vcd3, h1, lx1, Int.toNat_zero]
      refine r_lit el30 (out := #[.int .i64 0, .int .i64 1]) (by first | kernel_rfl | (simp -implicitDefEqProofs (disch := omega) only [List.any_cons, List.any_nil, Nat.reduceEqDiff, List.map_cons, List.map_nil, Option.map_some, Option.map_none, List.nil_append, ↓reduceIte, vcu0, vcu1, vcu2, vcu3, vcu4, vcu5, vcu6, vcu7, vcu8, vcu9, vcu10, vcu11, vcu12, vcu13, vcu14, vcu15, vcu16, vcu17, vcu18, vcu19, vcu20, vcu21, vcu22, ↓vcd0, ↓vcd1, ↓vcd2, ↓vcd3]; kernel_rfl)) (by rfl) fun e τ2 n2 s2 v2 => ?_
      simp -implicitDefEqProofs (disch := omega) only [List.any_cons, List.any_nil, Nat.reduceEqDiff, List.map_cons, List.map_nil, Option.map_some, Option.map_none, List.nil_append, ↓reduceIte, vcu0, vcu1, vcu2, vcu3, vcu4, vcu5, vcu6, vcu7, vcu8, vcu9, vcu10, vcu11, vcu12, vcu13, vcu14, vcu15, vcu16, vcu17, vcu18, vcu19, vcu20, vcu21, vcu22, ↓vcd0, ↓vcd1, ↓vcd2, ↓vcd3]
      refine fin_one Try.results63 ⟨s1.trans s2, .inr ⟨e, ?_, ?_, free_sub s1 n2⟩⟩
      · simp -implicitDefEqProofs (disch := omega) only [List.any_cons, List.any_nil, Nat.reduceEqDiff, List.map_cons, List.map_nil, Option.map_some, Option.map_none, List.nil_append, ↓reduceIte, vcu0, vcu1, vcu2, vcu3, vcu4, vcu5, vcu6, vcu7, vcu8, vcu9, vcu10, vcu11, vcu12, vcu13, vcu14, vcu15, vcu16, vcu17, vcu18, vcu19, vcu20, vcu21, vcu22, ↓vcd0, ↓vcd1, ↓vcd2, ↓vcd3]
        rfl
      · rw [v2]
        have : lrN 0 set = [0, 1] := by simp [lrN, tabI, lr, hc, List.range_succ]
        rw [this]; rfl
  | succ l ih =>
    intro hl2 σ h o set hv hl
    have hHP : 2 ≤ 2 ^ (l + 1) ∧ 2 ^ (l + 1) ≤ 4 ∧ many (l + 1) ≤ 6 := by
      have : l = 0 ∨ l = 1 := by omega
      rcases this with rfl | rfl <;> decide
    have hN : 2 ^ (l + 1 + 1) = 2 * 2 ^ (l + 1) := pow_two' l
    have hm : many (l + 1 + 1) = 2 ^ (l + 1 + 1) + 2 * many (l + 1) := rfl
    have ihh := ih (by omega)
    have hlm := fun σ => specLoopMany_ls (w0 := w0) σ l (by omega)
    have hp1 : ∀ k, k < 2 ^ (l + 1) → lr (l + 1) (dOf ((set.drop (2 ^ (l + 1))).take (many (l + 1)))) k = lr (l + 1) (fun j => dOf set (2 ^ (l + 1) + j)) k := fun k hk => part_of rfl hk
    have hp2 : ∀ k, k < 2 ^ (l + 1) → lr (l + 1) (dOf ((set.drop (2 ^ (l + 1) + many (l + 1))).take (many (l + 1)))) k = lr (l + 1) (fun j => dOf set (2 ^ (l + 1) + many (l + 1) + j)) k := fun k hk => part_of rfl hk
    have P1 := lr_perm l (fun j => dOf set (2 ^ (l + 1) + j))
    have P2 := lr_perm l (fun j => dOf set (2 ^ (l + 1) + many (l + 1) + j))
    have hcomb : ∀ k, lr (l + 1 + 1) (dOf set) k = comb (dOf set) (fun j => dOf set (2 ^ (l + 1) + 2 * many (l + 1) + j)) (lr (l + 1) fun j => dOf set (2 ^ (l + 1) + j)) (lr (l + 1) fun j => dOf set (2 ^ (l + 1) + many (l + 1) + j)) k := fun _ => rfl
    unfold lrN at ihh ⊢
    generalize lr (l + 1 + 1) (dOf set) = F at *
    generalize lr (l + 1) (fun j => dOf set (2 ^ (l + 1) + j)) = UF at *
    generalize lr (l + 1) (fun j => dOf set (2 ^ (l + 1) + many (l + 1) + j)) = WF at *
    rw [hm, hN] at hl
    rw [hN]
    generalize many (l + 1) = P at *
    generalize 2 ^ (l + 1) = H at *
    clear hm hN ih
    obtain ⟨hH2, hH4, hP6⟩ := hHP
    refine acall_go mixed Try.func63 rfl good63 fun pr => ?_
    simp -implicitDefEqProofs (disch := omega) only [List.any_cons, List.any_nil, Nat.reduceEqDiff, List.map_cons, List.map_nil, Option.map_some, Option.map_none, List.nil_append, ↓reduceIte, vcu0, vcu1, vcu2, vcu3, vcu4, vcu5, vcu6, vcu7, vcu8, vcu9, vcu10, vcu11, vcu12, vcu13, vcu14, vcu15, vcu16, vcu17, vcu18, vcu19, vcu20, vcu21, vcu22, ↓vcd0, ↓vcd1, ↓vcd2, ↓vcd3]
    refine r_makeI (kx := .i64) (ky := .i64) (l := 2 * H) (c := 2 * H) el30 (by omega) (by simp -implicitDefEqProofs (disch := omega) only [List.any_cons, List.any_nil, Nat.reduceEqDiff, List.map_cons, List.map_nil, Option.map_some, Option.map_none, List.nil_append, ↓reduceIte, vcu0, vcu1, vcu2, vcu3, vcu4, vcu5, vcu6, vcu7, vcu8, vcu9, vcu10, vcu11, vcu12, vcu13, vcu14, vcu15, vcu16, vcu17, vcu18, vcu19, vcu20, vcu21, vcu22, ↓vcd0, ↓vcd1, ↓vcd2, ↓vcd3]) (by simp -implicitDefEqProofs (disch := omega) only [List.any_cons, List.any_nil, Nat.reduceEqDiff, List.map_cons, List.map_nil, Option.map_some, Option.map_none, List.nil_append, ↓reduceIte, vcu0, vcu1, vcu2, vcu3, vcu4, vcu5, vcu6, vcu7, vcu8, vcu9, vcu10, vcu11, vcu12, vcu13, vcu14, vcu15, vcu16, vcu17, vcu18, vcu19, vcu20, vcu21, vcu22, ↓vcd0, ↓vcd1, ↓vcd2, ↓vcd3]) (by omega) fun g τ ng s1 e1 => ?_
    have ed : ((2 * H : Nat) : Int) / 2 = (H : Int) := by omega
    simp -implicitDefEqProofs (disch := omega) only [List.any_cons, List.any_nil, Nat.reduceEqDiff, List.map_cons, List.map_nil, Option.map_some, Option.map_none, List.nil_append, ↓reduceIte, vcu0, vcu1, vcu2, vcu3, vcu4, vcu5, vcu6, vcu7, vcu8, vcu9, vcu10, vcu11, vcu12, vcu13, vcu14, vcu15, vcu16, vcu17, vcu18, vcu19, vcu20, vcu21, vcu22, ↓vcd0, ↓vcd1, ↓vcd2, ↓vcd3, ed]
    refine (hlm τ).mono ?_
    rintro r _ ⟨rfl, rfl⟩
    rename_i τ
    have c1 := ihh τ h (o + H) ((set.drop H).take P) (((hv.sub s1).drop H).take P) (part_len (by omega))
    rw [part_len (by omega), tabI_congr (f' := UF) hp1] at c1
    have eP : (H : Int) + (P : Int) = ((H + P : Nat) : Int) := by omega
    have e2P : (H : Int) + 2 * (P : Int) = ((H + 2 * P : Nat) : Int) := by omega
    have eHP : H + P - H = P := by omega
    have eHP2 : H + 2 * P - (H + P) = P := by omega
    simp -implicitDefEqProofs (disch := omega) only [List.any_cons, List.any_nil, Nat.reduceEqDiff, List.map_cons, List.map_nil, Option.map_some, Option.map_none, List.nil_append, ↓reduceIte, vcu0, vcu1, vcu2, vcu3, vcu4, vcu5, vcu6, vcu7, vcu8, vcu9, vcu10, vcu11, vcu12, vcu13, vcu14, vcu15, vcu16, vcu17, vcu18, vcu19, vcu20, vcu21, vcu22, ↓vcd0, ↓vcd1, ↓vcd2, ↓vcd3, opK_some, eP, Int.toNat_natCast, eHP]
    refine c1.mono ?_
    rintro up τ2 ⟨s2, w2⟩
    have c2 := ihh τ2 h (o + (H + P)) ((set.drop (H + P)).take P) ((((hv.sub s1).sub s2).drop (H + P)).take P) (part_len (by omega))
    rw [part_len (by omega), tabI_congr (f' := WF) hp2] at c2
    simp -implicitDefEqProofs (disch := omega) only [List.any_cons, List.any_nil, Nat.reduceEqDiff, List.map_cons, List.map_nil, Option.map_some, Option.map_none, List.nil_append, ↓reduceIte, vcu0, vcu1, vcu2, vcu3, vcu4, vcu5, vcu6, vcu7, vcu8, vcu9, vcu10, vcu11, vcu12, vcu13, vcu14, vcu15, vcu16, vcu17, vcu18, vcu19, vcu20, vcu21, vcu22, ↓vcd0, ↓vcd1, ↓vcd2, ↓vcd3, opK_some, eP, e2P, Int.toNat_natCast, eHP2]
    refine c2.mono ?_
    rintro low τ3 ⟨s3, w3⟩
    obtain ⟨gu, rfl, vu, nu⟩ := ownI_row w2 (by rw [tabI_length]; omega)
    obtain ⟨gl, rfl, vl, nl⟩ := ownI_row w3 (by rw [tabI_length]; omega)
    replace vu := s3 _ _ vu
    have hgu : gu ≠ g := ne_of nu e1
    have hgl : gl ≠ g := ne_of nl (s2 _ _ e1)
    have hs3 : Sub σ τ3 := s1.trans (s2.trans s3)
    have hv3 := hv.sub hs3
    have eg3 : τ3 g = some ⟨ints .i64 (tabI (2 * H) fun i => if i < 0 then F i else 0), false⟩ := by
      rw [s3 _ _ (s2 _ _ e1), ← tabI_zero]; congr 3
    simp only [tabI_length]
    clear hv s1 s2 s3 w2 w3 e1 c1 c2
    simp -implicitDefEqProofs (disch := omega) only [List.any_cons, List.any_nil, Nat.reduceEqDiff, List.map_cons, List.map_nil, Option.map_some, Option.map_none, List.nil_append, ↓reduceIte, vcu0, vcu1, vcu2, vcu3, vcu4, vcu5, vcu6, vcu7, vcu8, vcu9, vcu10, vcu11, vcu12, vcu13, vcu14, vcu15, vcu16, vcu17, vcu18, vcu19, vcu20, vcu21, vcu22, ↓vcd0, ↓vcd1, ↓vcd2, ↓vcd3, opK_some]
    refine vc_loop_c mixed (by kernel_rfl) [0, 1, 5, 6, 7, 8, 9] (fun m a τ' => ∃ k : Nat, m + k = 2 * H ∧ a 10 = .int .i64 k ∧ Kept g τ3 τ' ∧ τ' g = some ⟨ints .i64 (tabI (2 * H) fun i => if i < k then F i else 0), false⟩) (2 * H) ⟨0, by simp, rfl, Kept.refl _ _, eg3⟩ ?_
    rintro m a τ4 hc ⟨k, hk, h10, hK, hg4⟩
    simp -implicitDefEqProofs (disch := omega) only [List.any_cons, List.any_nil, Nat.reduceEqDiff, List.map_cons, List.map_nil, Option.map_some, Option.map_none, List.nil_append, ↓reduceIte, vcu0, vcu1, vcu2, vcu3, vcu4, vcu5, vcu6, vcu7, vcu8, vcu9, vcu10, vcu11, vcu12, vcu13, vcu14, vcu15, vcu16, vcu17, vcu18, vcu19, vcu20, vcu21, vcu22, ↓vcd0, ↓vcd1, ↓vcd2, ↓vcd3] at hc
    obtain ⟨h0, h1, h5, h6, h7, h8, h9, -⟩ := hc
    by_cases hlt : k < 2 * H
    · have hk2 : k / 2 < H := by omega
      have ek : (k : Int) / 2 = ((k / 2 : Nat) : Int) := by omega
      have lu := intsAt_own (hK.at vu hgu) (k / 2) (by rw [tabI_length]; exact hk2)
      have ll := intsAt_own (hK.at vl hgl) (k / 2) (by rw [tabI_length]; exact hk2)
      rw [tabI_getD hk2] at lu ll
      have hcell : ∀ i, i < set.length → ld τ4 h (o + i) = some (.bool (dOf set i)) := fun i hi => by
        have hx := hv3 i hi
        have hne : h ≠ g := fun e => by
          subst e
          unfold ld at hx
          rw [eg3] at hx
          simp only [Option.bind_some] at hx
          have := List.mem_of_getElem? hx
          simp [ints] at this
        unfold ld at hx ⊢
        cases hq : τ3 h with
        | none => rw [hq] at hx; cases hx
        | some ob => rw [hK.at hq hne]; rw [hq] at hx; exact hx
      have l1 := hcell (k / 2) (by omega)
      have bU := P1.1 (k / 2) hk2
      have bW := P2.1 (k / 2) hk2
      have fval := hcomb k
      unfold comb at fval
      obtain ⟨U, hU⟩ : ∃ U, UF (k / 2) = U := ⟨_, rfl⟩
      obtain ⟨W, hW⟩ : ∃ W, WF (k / 2) = W := ⟨_, rfl⟩
      rw [hU] at lu bU fval
      rw [hW] at ll bW fval
      have lU := hcell (H + 2 * P + U) (by omega)
      have lW := hcell (H + 2 * P + W) (by omega)
      have eU : ((H + 2 * P : Nat) : Int) + (U : Int) = ((H + 2 * P + U : Nat) : Int) := by omega
      have eW : ((H + 2 * P : Nat) : Int) + (W : Int) = ((H + 2 * P + W : Nat) : Int) := by omega
      have fin4 : ∀ (τ : AHeap), τ g = some ⟨ints .i64 (tabI (2 * H) fun j => if j = k then F k else if j < k then F j else 0), false⟩ → τ g = some ⟨ints .i64 (tabI (2 * H) fun i => if i < k + 1 then F i else 0), false⟩ := fun τ e => by
        rw [e]; congr 3
        refine tabI_congr fun i _ => ?_
        by_cases ei : i = k
        · subst ei; rw [if_pos rfl, if_pos (by omega)]
        · rw [if_neg ei]
          by_cases h2 : i < k
          · rw [if_pos h2, if_pos (by omega)]
          · rw [if_neg h2, if_neg (by omega)]
      have hpar : k % 2 = 0 ∨ k % 2 = 1 := by omega
      clear hcell hv3 eg3 hcomb hp1 hp2 hlm ihh
      cases hc1 : dOf set (k / 2) with
      | true =>
        rw [hc1] at l1
        rcases hpar with e2 | e2
        · have hside : side (dOf set) k = true := by unfold side; rw [hc1, e2]; rfl
          rw [hside] at fval
          simp only [cond_true] at fval
          have e3 : (k : Int) % 2 = 0 := by omega
          cases hc2 : dOf set (H + 2 * P + W) with
          | true =>
            rw [hc2] at lW fval
            have fv : F k = 2 * W + 0 := fval
            simp -implicitDefEqProofs (disch := omega) only [List.any_cons, List.any_nil, Nat.reduceEqDiff, List.map_cons, List.map_nil, Option.map_some, Option.map_none, List.nil_append, ↓reduceIte, vcu0, vcu1, vcu2, vcu3, vcu4, vcu5, vcu6, vcu7, vcu8, vcu9, vcu10, vcu11, vcu12, vcu13, vcu14, vcu15, vcu16, vcu17, vcu18, vcu19, vcu20, vcu21, vcu22, ↓vcd0, ↓vcd1, ↓vcd2, ↓vcd3, h0, h1, h5, h6, h7, h8, h9, h10, ek, e3, l1, lu, ll, e2P, eU, eW, lW, Int.toNat_natCast]
            refine r_setI (g := g) (i := 0 + k) (v := ((F k : Nat) : Int)) (by simp -implicitDefEqProofs (disch := omega) only [List.any_cons, List.any_nil, Nat.reduceEqDiff, List.map_cons, List.map_nil, Option.map_some, Option.map_none, List.nil_append, ↓reduceIte, vcu0, vcu1, vcu2, vcu3, vcu4, vcu5, vcu6, vcu7, vcu8, vcu9, vcu10, vcu11, vcu12, vcu13, vcu14, vcu15, vcu16, vcu17, vcu18, vcu19, vcu20, vcu21, vcu22, ↓vcd0, ↓vcd1, ↓vcd2, ↓vcd3]) (by simp -implicitDefEqProofs (disch := omega) only [List.any_cons, List.any_nil, Nat.reduceEqDiff, List.map_cons, List.map_nil, Option.map_some, Option.map_none, List.nil_append, ↓reduceIte, vcu0, vcu1, vcu2, vcu3, vcu4, vcu5, vcu6, vcu7, vcu8, vcu9, vcu10, vcu11, vcu12, vcu13, vcu14, vcu15, vcu16, vcu17, vcu18, vcu19, vcu20, vcu21, vcu22, ↓vcd0, ↓vcd1, ↓vcd2, ↓vcd3]; congr 1; omega) co3 hg4 (by rw [tabI_length]; omega) fun τ5 k5 e5 => ?_
            rw [Nat.zero_add, tabI_set] at e5
            simp -implicitDefEqProofs (disch := omega) only [List.any_cons, List.any_nil, Nat.reduceEqDiff, List.map_cons, List.map_nil, Option.map_some, Option.map_none, List.nil_append, ↓reduceIte, vcu0, vcu1, vcu2, vcu3, vcu4, vcu5, vcu6, vcu7, vcu8, vcu9, vcu10, vcu11, vcu12, vcu13, vcu14, vcu15, vcu16, vcu17, vcu18, vcu19, vcu20, vcu21, vcu22, ↓vcd0, ↓vcd1, ↓vcd2, ↓vcd3, h0, h1, h5, h6, h7, h8, h9, h10]
            exact ⟨⟨trivial, trivial, trivial, trivial, trivial, trivial, trivial, trivial⟩, m - 1, by omega, k + 1, by omega, by simp, hK.trans k5, fin4 τ5 e5⟩
          | false =>
            rw [hc2] at lW fval
            have fv : F k = 2 * W + 1 := fval
            simp -implicitDefEqProofs (disch := omega) only [List.any_cons, List.any_nil, Nat.reduceEqDiff, List.map_cons, List.map_nil, Option.map_some, Option.map_none, List.nil_append, ↓reduceIte, vcu0, vcu1, vcu2, vcu3, vcu4, vcu5, vcu6, vcu7, vcu8, vcu9, vcu10, vcu11, vcu12, vcu13, vcu14, vcu15, vcu16, vcu17, vcu18, vcu19, vcu20, vcu21, vcu22, ↓vcd0, ↓vcd1, ↓vcd2, ↓vcd3, h0, h1, h5, h6, h7, h8, h9, h10, ek, e3, l1, lu, ll, e2P, eU, eW, lW, Int.toNat_natCast]
            refine r_setI (g := g) (i := 0 + k) (v := ((F k : Nat) : Int)) (by simp -implicitDefEqProofs (disch := omega) only [List.any_cons, List.any_nil, Nat.reduceEqDiff, List.map_cons, List.map_nil, Option.map_some, Option.map_none, List.nil_append, ↓reduceIte, vcu0, vcu1, vcu2, vcu3, vcu4, vcu5, vcu6, vcu7, vcu8, vcu9, vcu10, vcu11, vcu12, vcu13, vcu14, vcu15, vcu16, vcu17, vcu18, vcu19, vcu20, vcu21, vcu22, ↓vcd0, ↓vcd1, ↓vcd2, ↓vcd3]) (by simp -implicitDefEqProofs (disch := omega) only [List.any_cons, List.any_nil, Nat.reduceEqDiff, List.map_cons, List.map_nil, Option.map_some, Option.map_none, List.nil_append, ↓reduceIte, vcu0, vcu1, vcu2, vcu3, vcu4, vcu5, vcu6, vcu7, vcu8, vcu9, vcu10, vcu11, vcu12, vcu13, vcu14, vcu15, vcu16, vcu17, vcu18, vcu19, vcu20, vcu21, vcu22, ↓vcd0, ↓vcd1, ↓vcd2, ↓vcd3]; congr 1; omega) co3 hg4 (by rw [tabI_length]; omega) fun τ5 k5 e5 => ?_
            rw [Nat.zero_add, tabI_set] at e5
            simp -implicitDefEqProofs (disch := omega) only [List.any_cons, List.any_nil, Nat.reduceEqDiff, List.map_cons, List.map_nil, Option.map_some, Option.map_none, List.nil_append, ↓reduceIte, vcu0, vcu1, vcu2, vcu3, vcu4, vcu5, vcu6, vcu7, vcu8, vcu9, vcu10, vcu11, vcu12, vcu13, vcu14, vcu15, vcu16, vcu17, vcu18, vcu19, vcu20, vcu21, vcu22, ↓vcd0, ↓vcd1, ↓vcd2, ↓vcd3, h0, h1, h5, h6, h7, h8, h9, h10]
            exact ⟨⟨trivial, trivial, trivial, trivial, trivial, trivial, trivial, trivial⟩, m - 1, by omega, k + 1, by omega, by simp, hK.trans k5, fin4 τ5 e5⟩
        · have hside : side (dOf set) k = false := by unfold side; rw [hc1, e2]; rfl
          rw [hside] at fval
          simp only [cond_false] at fval
          have e3 : (k : Int) % 2 = 1 := by omega
          cases hc2 : dOf set (H + 2 * P + U) with
          | true =>
            rw [hc2] at lU fval
            have fv : F k = 2 * U + 1 := fval
            simp -implicitDefEqProofs (disch := omega) only [List.any_cons, List.any_nil, Nat.reduceEqDiff, List.map_cons, List.map_nil, Option.map_some, Option.map_none, List.nil_append, ↓reduceIte, vcu0, vcu1, vcu2, vcu3, vcu4, vcu5, vcu6, vcu7, vcu8, vcu9, vcu10, vcu11, vcu12, vcu13, vcu14, vcu15, vcu16, vcu17, vcu18, vcu19, vcu20, vcu21, vcu22, ↓vcd0, ↓vcd1, ↓vcd2, ↓vcd3, h0, h1, h5, h6, h7, h8, h9, h10, ek, e3, l1, lu, ll, e2P, eU, eW, lU, Int.toNat_natCast]
            refine r_setI (g := g) (i := 0 + k) (v := ((F k : Nat) : Int)) (by simp -implicitDefEqProofs (disch := omega) only [List.any_cons, List.any_nil, Nat.reduceEqDiff, List.map_cons, List.map_nil, Option.map_some, Option.map_none, List.nil_append, ↓reduceIte, vcu0, vcu1, vcu2, vcu3, vcu4, vcu5, vcu6, vcu7, vcu8, vcu9, vcu10, vcu11, vcu12, vcu13, vcu14, vcu15, vcu16, vcu17, vcu18, vcu19, vcu20, vcu21, vcu22, ↓vcd0, ↓vcd1, ↓vcd2, ↓vcd3]) (by simp -implicitDefEqProofs (disch := omega) only [List.any_cons, List.any_nil, Nat.reduceEqDiff, List.map_cons, List.map_nil, Option.map_some, Option.map_none, List.nil_append, ↓reduceIte, vcu0, vcu1, vcu2, vcu3, vcu4, vcu5, vcu6, vcu7, vcu8, vcu9, vcu10, vcu11, vcu12, vcu13, vcu14, vcu15, vcu16, vcu17, vcu18, vcu19, vcu20, vcu21, vcu22, ↓vcd0, ↓vcd1, ↓vcd2, ↓vcd3]; congr 1; omega) co3 hg4 (by rw [tabI_length]; omega) fun τ5 k5 e5 => ?_
            rw [Nat.zero_add, tabI_set] at e5
            simp -implicitDefEqProofs (disch := omega) only [List.any_cons, List.any_nil, Nat.reduceEqDiff, List.map_cons, List.map_nil, Option.map_some, Option.map_none, List.nil_append, ↓reduceIte, vcu0, vcu1, vcu2, vcu3, vcu4, vcu5, vcu6, vcu7, vcu8, vcu9, vcu10, vcu11, vcu12, vcu13, vcu14, vcu15, vcu16, vcu17, vcu18, vcu19, vcu20, vcu21, vcu22, ↓vcd0, ↓vcd1, ↓vcd2, ↓vcd3, h0, h1, h5, h6, h7, h8, h9, h10]
            exact ⟨⟨trivial, trivial, trivial, trivial, trivial, trivial, trivial, trivial⟩, m - 1, by omega, k + 1, by omega, by simp, hK.trans k5, fin4 τ5 e5⟩
          | false =>
            rw [hc2] at lU fval
            have fv : F k = 2 * U + 0 := fval
            simp -implicitDefEqProofs (disch := omega) only [List.any_cons, List.any_nil, Nat.reduceEqDiff, List.map_cons, List.map_nil, Option.map_some, Option.map_none, List.nil_append, ↓reduceIte, vcu0, vcu1, vcu2, vcu3, vcu4, vcu5, vcu6, vcu7, vcu8, vcu9, vcu10, vcu11, vcu12, vcu13, vcu14, vcu15, vcu16, vcu17, vcu18, vcu19, vcu20, vcu21, vcu22, ↓vcd0, ↓vcd1, ↓vcd2, ↓vcd3, h0, h1, h5, h6, h7, h8, h9, h10, ek, e3, l1, lu, ll, e2P, eU, eW, lU, Int.toNat_natCast]
            refine r_setI (g := g) (i := 0 + k) (v := ((F k : Nat) : Int)) (by simp -implicitDefEqProofs (disch := omega) only [List.any_cons, List.any_nil, Nat.reduceEqDiff, List.map_cons, List.map_nil, Option.map_some, Option.map_none, List.nil_append, ↓reduceIte, vcu0, vcu1, vcu2, vcu3, vcu4, vcu5, vcu6, vcu7, vcu8, vcu9, vcu10, vcu11, vcu12, vcu13, vcu14, vcu15, vcu16, vcu17, vcu18, vcu19, vcu20, vcu21, vcu22, ↓vcd0, ↓vcd1, ↓vcd2, ↓vcd3]) (by simp -implicitDefEqProofs (disch := omega) only [List.any_cons, List.any_nil, Nat.reduceEqDiff, List.map_cons, List.map_nil, Option.map_some, Option.map_none, List.nil_append, ↓reduceIte, vcu0, vcu1, vcu2, vcu3, vcu4, vcu5, vcu6, vcu7, vcu8, vcu9, vcu10, vcu11, vcu12, vcu13, vcu14, vcu15, vcu16, vcu17, vcu18, vcu19, vcu20, vcu21, vcu22, ↓vcd0, ↓vcd1, ↓vcd2, ↓vcd3]; congr 1; omega) co3 hg4 (by rw [tabI_length]; omega) fun τ5 k5 e5 => ?_
            rw [Nat.zero_add, tabI_set] at e5
            simp -implicitDefEqProofs (disch := omega) only [List.any_cons, List.any_nil, Nat.reduceEqDiff, List.map_cons, List.map_nil, Option.map_some, Option.map_none, List.nil_append, ↓reduceIte, vcu0, vcu1, vcu2, vcu3, vcu4, vcu5, vcu6, vcu7, vcu8, vcu9, vcu10, vcu11, vcu12, vcu13, vcu14, vcu15, vcu16, vcu17, vcu18, vcu19, vcu20, vcu21, vcu22, ↓vcd0, ↓vcd1, ↓vcd2, ↓vcd3, h0, h1, h5, h6, h7, h8, h9, h10]
            exact ⟨⟨trivial, trivial, trivial, trivial, trivial, trivial, trivial, trivial⟩, m - 1, by omega, k + 1, by omega, by simp, hK.trans k5, fin4 τ5 e5⟩
      | false =>
        rw [hc1] at l1
        rcases hpar with e2 | e2
        · have hside : side (dOf set) k = false := by unfold side; rw [hc1, e2]; rfl
          rw [hside] at fval
          simp only [cond_false] at fval
          have e3 : (k : Int) % 2 = 0 := by omega
          cases hc2 : dOf set (H + 2 * P + U) with
          | true =>
            rw [hc2] at lU fval
            have fv : F k = 2 * U + 1 := fval
            simp -implicitDefEqProofs (disch := omega) only [List.any_cons, List.any_nil, Nat.reduceEqDiff, List.map_cons, List.map_nil, Option.map_some, Option.map_none, List.nil_append, ↓reduceIte, vcu0, vcu1, vcu2, vcu3, vcu4, vcu5, vcu6, vcu7, vcu8, vcu9, vcu10, vcu11, vcu12, vcu13, vcu14, vcu15, vcu16, vcu17, vcu18, vcu19, vcu20, vcu21, vcu22, ↓vcd0, ↓vcd1, ↓vcd2, ↓vcd3, h0, h1, h5, h6, h7, h8, h9, h10, ek, e3, l1, lu, ll, e2P, eU, eW, lU, Int.toNat_natCast]
            refine r_setI (g := g) (i := 0 + k) (v := ((F k : Nat) : Int)) (by simp -implicitDefEqProofs (disch := omega) only [List.any_cons, List.any_nil, Nat.reduceEqDiff, List.map_cons, List.map_nil, Option.map_some, Option.map_none, List.nil_append, ↓reduceIte, vcu0, vcu1, vcu2, vcu3, vcu4, vcu5, vcu6, vcu7, vcu8, vcu9, vcu10, vcu11, vcu12, vcu13, vcu14, vcu15, vcu16, vcu17, vcu18, vcu19, vcu20, vcu21, vcu22, ↓vcd0, ↓vcd1, ↓vcd2, ↓vcd3]) (by simp -implicitDefEqProofs (disch := omega) only [List.any_cons, List.any_nil, Nat.reduceEqDiff, List.map_cons, List.map_nil, Option.map_some, Option.map_none, List.nil_append, ↓reduceIte, vcu0, vcu1, vcu2, vcu3, vcu4, vcu5, vcu6, vcu7, vcu8, vcu9, vcu10, vcu11, vcu12, vcu13, vcu14, vcu15, vcu16, vcu17, vcu18, vcu19, vcu20, vcu21, vcu22, ↓vcd0, ↓vcd1, ↓vcd2, ↓vcd3]; congr 1; omega) co3 hg4 (by rw [tabI_length]; omega) fun τ5 k5 e5 => ?_
            rw [Nat.zero_add, tabI_set] at e5
            simp -implicitDefEqProofs (disch := omega) only [List.any_cons, List.any_nil, Nat.reduceEqDiff, List.map_cons, List.map_nil, Option.map_some, Option.map_none, List.nil_append, ↓reduceIte, vcu0, vcu1, vcu2, vcu3, vcu4, vcu5, vcu6, vcu7, vcu8, vcu9, vcu10, vcu11, vcu12, vcu13, vcu14, vcu15, vcu16, vcu17, vcu18, vcu19, vcu20, vcu21, vcu22, ↓vcd0, ↓vcd1, ↓vcd2, ↓vcd3, h0, h1, h5, h6, h7, h8, h9, h10]
            exact ⟨⟨trivial, trivial, trivial, trivial, trivial, trivial, trivial, trivial⟩, m - 1, by omega, k + 1, by omega, by simp, hK.trans k5, fin4 τ5 e5⟩
          | false =>
            rw [hc2] at lU fval
            have fv : F k = 2 * U + 0 := fval
            simp -implicitDefEqProofs (disch := omega) only [List.any_cons, List.any_nil, Nat.reduceEqDiff, List.map_cons, List.map_nil, Option.map_some, Option.map_none, List.nil_append, ↓reduceIte, vcu0, vcu1, vcu2, vcu3, vcu4, vcu5, vcu6, vcu7, vcu8, vcu9, vcu10, vcu11, vcu12, vcu13, vcu14, vcu15, vcu16, vcu17, vcu18, vcu19, vcu20, vcu21, vcu22, ↓vcd0, ↓vcd1, ↓vcd2, ↓vcd3, h0, h1, h5, h6, h7, h8, h9, h10, ek, e3, l1, lu, ll, e2P, eU, eW, lU, Int.toNat_natCast]
            refine r_setI (g := g) (i := 0 + k) (v := ((F k : Nat) : Int)) (by simp -implicitDefEqProofs (disch := omega) only [List.any_cons, List.any_nil, Nat.reduceEqDiff, List.map_cons, List.map_nil, Option.map_some, Option.map_none, List.nil_append, ↓reduceIte, vcu0, vcu1, vcu2, vcu3, vcu4, vcu5, vcu6, vcu7, vcu8, vcu9, vcu10, vcu11, vcu12, vcu13, vcu14, vcu15, vcu16, vcu17, vcu18, vcu19, vcu20, vcu21, vcu22, ↓vcd0, ↓vcd1, ↓vcd2, ↓vcd3]) (by simp -implicitDefEqProofs (disch := omega) only [List.any_cons, List.any_nil, Nat.reduceEqDiff, List.map_cons, List.map_nil, Option.map_some, Option.map_none, List.nil_append, ↓reduceIte, vcu0, vcu1, vcu2, vcu3, vcu4, vcu5, vcu6, vcu7, vcu8, vcu9, vcu10, vcu11, vcu12, vcu13, vcu14, vcu15, vcu16, vcu17, vcu18, vcu19, vcu20, vcu21, vcu22, ↓vcd0, ↓vcd1, ↓vcd2, ↓vcd3]; congr 1; omega) co3 hg4 (by rw [tabI_length]; omega) fun τ5 k5 e5 => ?_
            rw [Nat.zero_add, tabI_set] at e5
            simp -implicitDefEqProofs (disch := omega) only [List.any_cons, List.any_nil, Nat.reduceEqDiff, List.map_cons, List.map_nil, Option.map_some, Option.map_none, List.nil_append, ↓reduceIte, vcu0, vcu1, vcu2, vcu3, vcu4, vcu5, vcu6, vcu7, vcu8, vcu9, vcu10, vcu11, vcu12, vcu13, vcu14, vcu15, vcu16, vcu17, vcu18, vcu19, vcu20, vcu21, vcu22, ↓vcd0, ↓vcd1, ↓vcd2, ↓vcd3, h0, h1, h5, h6, h7, h8, h9, h10]
            exact ⟨⟨trivial, trivial, trivial, trivial, trivial, trivial, trivial, trivial⟩, m - 1, by omega, k + 1, by omega, by simp, hK.trans k5, fin4 τ5 e5⟩
        · have hside : side (dOf set) k = true := by unfold side; rw [hc1, e2]; rfl
          rw [hside] at fval
          simp only [cond_true] at fval
          have e3 : (k : Int) % 2 = 1 := by omega
          cases hc2 : dOf set (H + 2 * P + W) with
          | true =>
            rw [hc2] at lW fval
            have fv : F k = 2 * W + 0 := fval
            simp -implicitDefEqProofs (disch := omega) only [List.any_cons, List.any_nil, Nat.reduceEqDiff, List.map_cons, List.map_nil, Option.map_some, Option.map_none, List.nil_append, ↓reduceIte, vcu0, vcu1, vcu2, vcu3, vcu4, vcu5, vcu6, vcu7, vcu8, vcu9, vcu10, vcu11, vcu12, vcu13, vcu14, vcu15, vcu16, vcu17, vcu18, vcu19, vcu20, vcu21, vcu22, ↓vcd0, ↓vcd1, ↓vcd2, ↓vcd3, h0, h1, h5, h6, h7, h8, h9, h10, ek, e3, l1, lu, ll, e2P, eU, eW, lW, Int.toNat_natCast]
            refine r_setI (g := g) (i := 0 + k) (v := ((F k : Nat) : Int)) (by simp -implicitDefEqProofs (disch := omega) only [List.any_cons, List.any_nil, Nat.reduceEqDiff, List.map_cons, List.map_nil, Option.map_some, Option.map_none, List.nil_append, ↓reduceIte, vcu0, vcu1, vcu2, vcu3, vcu4, vcu5, vcu6, vcu7, vcu8, vcu9, vcu10, vcu11, vcu12, vcu13, vcu14, vcu15, vcu16, vcu17, vcu18, vcu19, vcu20, vcu21, vcu22, ↓vcd0, ↓vcd1, ↓vcd2, ↓vcd3]) (by simp -implicitDefEqProofs (disch := omega) only [List.any_cons, List.any_nil, Nat.reduceEqDiff, List.map_cons, List.map_nil, Option.map_some, Option.map_none, List.nil_append, ↓reduceIte, vcu0, vcu1, vcu2, vcu3, vcu4, vcu5, vcu6, vcu7, vcu8, vcu9, vcu10, vcu11, vcu12, vcu13, vcu14, vcu15, vcu16, vcu17, vcu18, vcu19, vcu20, vcu21, vcu22, ↓vcd0, ↓vcd1, ↓vcd2, ↓vcd3]; congr 1; omega) co3 hg4 (by rw [tabI_length]; omega) fun τ5 k5 e5 => ?_
            rw [Nat.zero_add, tabI_set] at e5
            simp -implicitDefEqProofs (disch := omega) only [List.any_cons, List.any_nil, Nat.reduceEqDiff, List.map_cons, List.map_nil, Option.map_some, Option.map_none, List.nil_append, ↓reduceIte, vcu0, vcu1, vcu2, vcu3, vcu4, vcu5, vcu6, vcu7, vcu8, vcu9, vcu10, vcu11, vcu12, vcu13, vcu14, vcu15, vcu16, vcu17, vcu18, vcu19, vcu20, vcu21, vcu22, ↓vcd0, ↓vcd1, ↓vcd2, ↓vcd3, h0, h1, h5, h6, h7, h8, h9, h10]
            exact ⟨⟨trivial, trivial, trivial, trivial, trivial, trivial, trivial, trivial⟩, m - 1, by omega, k + 1, by omega, by simp, hK.trans k5, fin4 τ5 e5⟩
          | false =>
            rw [hc2] at lW fval
            have fv : F k = 2 * W + 1 := fval
            simp -implicitDefEqProofs (disch := omega) only [List.any_cons, List.any_nil, Nat.reduceEqDiff, List.map_cons, List.map_nil, Option.map_some, Option.map_none, List.nil_append, ↓reduceIte, vcu0, vcu1, vcu2, vcu3, vcu4, vcu5, vcu6, vcu7, vcu8, vcu9, vcu10, vcu11, vcu12, vcu13, vcu14, vcu15, vcu16, vcu17, vcu18, vcu19, vcu20, vcu21, vcu22, ↓vcd0, ↓vcd1, ↓vcd2, ↓vcd3, h0, h1, h5, h6, h7, h8, h9, h10, ek, e3, l1, lu, ll, e2P, eU, eW, lW, Int.toNat_natCast]
            refine r_setI (g := g) (i := 0 + k) (v := ((F k : Nat) : Int)) (by simp -implicitDefEqProofs (disch := omega) only [List.any_cons, List.any_nil, Nat.reduceEqDiff, List.map_cons, List.map_nil, Option.map_some, Option.map_none, List.nil_append, ↓reduceIte, vcu0, vcu1, vcu2, vcu3, vcu4, vcu5, vcu6, vcu7, vcu8, vcu9, vcu10, vcu11, vcu12, vcu13, vcu14, vcu15, vcu16, vcu17, vcu18, vcu19, vcu20, vcu21, vcu22, ↓vcd0, ↓vcd1, ↓vcd2, ↓vcd3]) (by simp -implicitDefEqProofs (disch := omega) only [List.any_cons, List.any_nil, Nat.reduceEqDiff, List.map_cons, List.map_nil, Option.map_some, Option.map_none, List.nil_append, ↓reduceIte, vcu0, vcu1, vcu2, vcu3, vcu4, vcu5, vcu6, vcu7, vcu8, vcu9, vcu10, vcu11, vcu12, vcu13, vcu14, vcu15, vcu16, vcu17, vcu18, vcu19, vcu20, vcu21, vcu22, ↓vcd0, ↓vcd1, ↓vcd2, ↓vcd3]; congr 1; omega) co3 hg4 (by rw [tabI_length]; omega) fun τ5 k5 e5 => ?_
            rw [Nat.zero_add, tabI_set] at e5
            simp -implicitDefEqProofs (disch := omega) only [List.any_cons, List.any_nil, Nat.reduceEqDiff, List.map_cons, List.map_nil, Option.map_some, Option.map_none, List.nil_append, ↓reduceIte, vcu0, vcu1, vcu2, vcu3, vcu4, vcu5, vcu6, vcu7, vcu8, vcu9, vcu10, vcu11, vcu12, vcu13, vcu14, vcu15, vcu16, vcu17, vcu18, vcu19, vcu20, vcu21, vcu22, ↓vcd0, ↓vcd1, ↓vcd2, ↓vcd3, h0, h1, h5, h6, h7, h8, h9, h10]
            exact ⟨⟨trivial, trivial, trivial, trivial, trivial, trivial, trivial, trivial⟩, m - 1, by omega, k + 1, by omega, by simp, hK.trans k5, fin4 τ5 e5⟩
    · have e : k = 2 * H := by omega
      subst e
      simp -implicitDefEqProofs (disch := omega) only [List.any_cons, List.any_nil, Nat.reduceEqDiff, List.map_cons, List.map_nil, Option.map_some, Option.map_none, List.nil_append, ↓reduceIte, vcu0, vcu1, vcu2, vcu3, vcu4, vcu5, vcu6, vcu7, vcu8, vcu9, vcu10, vcu11, vcu12, vcu13, vcu14, vcu15, vcu16, vcu17, vcu18, vcu19, vcu20, vcu21, vcu22, ↓vcd0, ↓vcd1, ↓vcd2, ↓vcd3, h0, h1, h5, h6, h7, h8, h9, h10]
      refine fin_one Try.results63 ⟨hK.sub hs3 ng, .inr ⟨g, ?_, ?_, ng⟩⟩
      · simp -implicitDefEqProofs (disch := omega) only [List.any_cons, List.any_nil, Nat.reduceEqDiff, List.map_cons, List.map_nil, Option.map_some, Option.map_none, List.nil_append, ↓reduceIte, vcu0, vcu1, vcu2, vcu3, vcu4, vcu5, vcu6, vcu7, vcu8, vcu9, vcu10, vcu11, vcu12, vcu13, vcu14, vcu15, vcu16, vcu17, vcu18, vcu19, vcu20, vcu21, vcu22, ↓vcd0, ↓vcd1, ↓vcd2, ↓vcd3, h5]
        rw [tabI_length]
      · rw [hg4]; congr 3
        exact tabI_congr fun i hi => by rw [if_pos hi]
end Go.Proofs.Ytgieeafdgdkkcaa

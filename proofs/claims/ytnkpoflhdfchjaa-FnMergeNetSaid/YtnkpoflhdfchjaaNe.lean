/- Networks at work; what is in order; neighbours; the exact laws of these. -/
import Derived.Test.YtnkpoflhdfchjaaNd
set_option linter.unusedSimpArgs false
set_option linter.unusedVariables false
namespace Go.Proofs.Ytnkpoflhdfchjaa
open Go Go.Abs Go.RowKit
variable {w0 : World}

/-- a network at work -/
def runs (cs : List (Int × Int)) (ys : List Int) : List Int := cs.foldl (fun ys c => cmpx ys c.1.toNat c.2.toNat) ys
theorem runs_length (cs : List (Int × Int)) : ∀ ys, (runs cs ys).length = ys.length := by
  induction cs with
  | nil => intro ys; rfl
  | cons c cs ih => intro ys; show (runs cs _).length = _; rw [ih, cmpx_length]
theorem runs_snoc (cs : List (Int × Int)) (c : Int × Int) (ys : List Int) : runs (cs ++ [c]) ys = cmpx (runs cs ys) c.1.toNat c.2.toNat := by simp [runs]

theorem runNet_at (σ : AHeap) (h o : Nat) (cs : List (Int × Int)) (g : Nat) (ys : List Int) (hv : PairsAt σ h o cs) (hl : cs.length ≤ 1048576) (hg : σ g = some ⟨ints .i64 ys, false⟩) (hgh0 : cs ≠ [] → h ≠ g) (hy : ys.length ≤ 1048576)
    (hN : ∀ c ∈ cs, NVc ys.length c) :
    ACall Try.prog w0 80 [.slice (some ⟨h, o, none⟩) cs.length 2, .slice (some ⟨g, 0, none⟩) ys.length 1] σ fun r σ' => Kept g σ σ' ∧ σ' g = some ⟨ints .i64 (runs cs ys), false⟩ := by
  refine acall_go mixed Try.func80 rfl good80 fun pr => ?_
  simp -implicitDefEqProofs (disch := omega) only [List.any_cons, List.any_nil, Nat.reduceEqDiff, List.map_cons, List.map_nil, Option.map_some, Option.map_none, List.nil_append, ↓reduceIte, vcu0, vcu1, vcu2, vcu3, vcu4, vcu5, vcu6, vcu7, vcu8, vcu9, vcu10, vcu11, vcu12, vcu13, vcu14, vcu15, vcu16, vcu17, vcu18, vcu19, vcu20, vcu21, vcu22, vcu23, vcu24, vcu25, vcu26, ↓vcd0, ↓vcd1, ↓vcd2, ↓vcd3]
  refine vc_loop_c mixed (by kernel_rfl) [1, 6, 7] (fun m a σ' => ∃ k : Nat, m + k = cs.length ∧ a 8 = .int .i64 k ∧ Kept g σ σ' ∧ σ' g = some ⟨ints .i64 (runs (cs.take k) ys), false⟩) cs.length ⟨0, by simp, rfl, Kept.refl _ _, hg⟩ ?_
  rintro m a σ' hc ⟨k, hk, h8, hkp, hgk⟩
  simp -implicitDefEqProofs (disch := omega) only [List.any_cons, List.any_nil, Nat.reduceEqDiff, List.map_cons, List.map_nil, Option.map_some, Option.map_none, List.nil_append, ↓reduceIte, vcu0, vcu1, vcu2, vcu3, vcu4, vcu5, vcu6, vcu7, vcu8, vcu9, vcu10, vcu11, vcu12, vcu13, vcu14, vcu15, vcu16, vcu17, vcu18, vcu19, vcu20, vcu21, vcu22, vcu23, vcu24, vcu25, vcu26, ↓vcd0, ↓vcd1, ↓vcd2, ↓vcd3] at hc
  obtain ⟨h1, h6, h7, -⟩ := hc
  by_cases hlt : k < cs.length
  · have hgh : h ≠ g := hgh0 (by rintro rfl; simp at hlt)
    have hx := hv.both hlt
    obtain ⟨q1, q2⟩ := hv k hlt
    have hm := getD_mem hlt
    have ht := take_one hlt
    generalize cs.getD k (0, 0) = c at hx hm ht q1 q2
    have hNc := hN c hm
    obtain ⟨A, B⟩ := c
    unfold NVc at hNc
    dsimp only at hNc hx q1 q2
    have q1' : ld σ' h (o + k * 2) = some (.int .i64 A) := by
      unfold ld at q1 ⊢; cases hσ : σ h with
      | none => rw [hσ] at q1; cases q1
      | some ob => rw [hσ] at q1; rw [hkp.at hσ hgh]; exact q1
    have q2' : ld σ' h (o + k * 2 + 1) = some (.int .i64 B) := by
      unfold ld at q2 ⊢; cases hσ : σ h with
      | none => rw [hσ] at q2; cases q2
      | some ob => rw [hσ] at q2; rw [hkp.at hσ hgh]; exact q2
    have hx' := lds_two q1' q2'
    obtain ⟨a0, rfl⟩ : ∃ a0 : Nat, A = a0 := ⟨A.toNat, by omega⟩
    obtain ⟨b0, rfl⟩ : ∃ b0 : Nat, B = b0 := ⟨B.toNat, by omega⟩
    simp -implicitDefEqProofs (disch := omega) only [List.any_cons, List.any_nil, Nat.reduceEqDiff, List.map_cons, List.map_nil, Option.map_some, Option.map_none, List.nil_append, ↓reduceIte, vcu0, vcu1, vcu2, vcu3, vcu4, vcu5, vcu6, vcu7, vcu8, vcu9, vcu10, vcu11, vcu12, vcu13, vcu14, vcu15, vcu16, vcu17, vcu18, vcu19, vcu20, vcu21, vcu22, vcu23, vcu24, vcu25, vcu26, ↓vcd0, ↓vcd1, ↓vcd2, ↓vcd3, h1, h6, h7, h8, hx', co28]
    refine r_local (cs := #[.int .i64 a0, .int .i64 b0]) ze28 (by decide) (by simp -implicitDefEqProofs (disch := omega) only [List.any_cons, List.any_nil, Nat.reduceEqDiff, List.map_cons, List.map_nil, Option.map_some, Option.map_none, List.nil_append, ↓reduceIte, vcu0, vcu1, vcu2, vcu3, vcu4, vcu5, vcu6, vcu7, vcu8, vcu9, vcu10, vcu11, vcu12, vcu13, vcu14, vcu15, vcu16, vcu17, vcu18, vcu19, vcu20, vcu21, vcu22, vcu23, vcu24, vcu25, vcu26, ↓vcd0, ↓vcd1, ↓vcd2, ↓vcd3]) (by rw [co28]; rfl) rfl rfl (Nat.zero_lt_succ _) fun b τ hb hs2 e => ?_
    have hl3 : lds τ b 0 2 = some [.int .i64 a0, .int .i64 b0] := lds_two (ld_of e rfl) (ld_of e rfl)
    have hgτ := hs2 _ _ hgk
    simp -implicitDefEqProofs (disch := omega) only [List.any_cons, List.any_nil, Nat.reduceEqDiff, List.map_cons, List.map_nil, Option.map_some, Option.map_none, List.nil_append, ↓reduceIte, vcu0, vcu1, vcu2, vcu3, vcu4, vcu5, vcu6, vcu7, vcu8, vcu9, vcu10, vcu11, vcu12, vcu13, vcu14, vcu15, vcu16, vcu17, vcu18, vcu19, vcu20, vcu21, vcu22, vcu23, vcu24, vcu25, vcu26, ↓vcd0, ↓vcd1, ↓vcd2, ↓vcd3, h1, hl3, co28]
    have hcmp := compare_at (w0 := w0) τ g a0 b0 (runs (cs.take k) ys) hgτ (by rw [runs_length]; omega) (by rw [runs_length]; omega) (by rw [runs_length]; omega)
    rw [runs_length] at hcmp
    refine hcmp.mono ?_
    rintro r τ3 ⟨rfl, k3, e3⟩
    simp -implicitDefEqProofs (disch := omega) only [List.any_cons, List.any_nil, Nat.reduceEqDiff, List.map_cons, List.map_nil, Option.map_some, Option.map_none, List.nil_append, ↓reduceIte, vcu0, vcu1, vcu2, vcu3, vcu4, vcu5, vcu6, vcu7, vcu8, vcu9, vcu10, vcu11, vcu12, vcu13, vcu14, vcu15, vcu16, vcu17, vcu18, vcu19, vcu20, vcu21, vcu22, vcu23, vcu24, vcu25, vcu26, ↓vcd0, ↓vcd1, ↓vcd2, ↓vcd3, opK_some, h1, h6, h7, h8]
    refine ⟨⟨trivial, trivial, trivial, trivial⟩, m - 1, by omega, k + 1, by omega, by simp, (hkp.trans hs2.kept).trans k3, ?_⟩
    rw [e3, ht, runs_snoc]; rfl
  · simp -implicitDefEqProofs (disch := omega) only [List.any_cons, List.any_nil, Nat.reduceEqDiff, List.map_cons, List.map_nil, Option.map_some, Option.map_none, List.nil_append, ↓reduceIte, vcu0, vcu1, vcu2, vcu3, vcu4, vcu5, vcu6, vcu7, vcu8, vcu9, vcu10, vcu11, vcu12, vcu13, vcu14, vcu15, vcu16, vcu17, vcu18, vcu19, vcu20, vcu21, vcu22, vcu23, vcu24, vcu25, vcu26, ↓vcd0, ↓vcd1, ↓vcd2, ↓vcd3, h1, h6, h7, h8]
    have e : k = cs.length := by omega
    subst e
    rw [List.take_length] at hgk
    exact ⟨σ', Sub.refl _, hkp, hgk⟩
end Go.Proofs.Ytnkpoflhdfchjaa

/- NetUseless: what is exchanged; of the reference and of the program. -/
import Derived.Test.YtnkpoflhdfchjaaOe
import Derived.Test.YtnkpoflhdfchjaaNr
set_option linter.unusedSimpArgs false
set_option linter.unusedVariables false
namespace Go.Proofs.Ytnkpoflhdfchjaa
open Go Go.Abs Go.RowKit
variable {w0 : World}

/-- does a comparator exchange anything of an input? of the first ones? -/
def exch (cs : List (Int × Int)) (n k b : Nat) : Bool := decide ((runs (cs.take k) (bitsL n b)).getD (cs.getD k (0, 0)).2.toNat 0 < (runs (cs.take k) (bitsL n b)).getD (cs.getD k (0, 0)).1.toNat 0)
def used (cs : List (Int × Int)) (n k : Nat) : Nat → Bool
  | 0 => false
  | M + 1 => used cs n k M || exch cs n k M
theorem used_false {cs : List (Int × Int)} {n k : Nat} : ∀ {M : Nat}, used cs n k M = false → ∀ b, b < M → exch cs n k b = false
  | 0, _, b, hb => absurd hb (by omega)
  | M + 1, h, b, hb => by
    simp only [used, Bool.or_eq_false_iff] at h
    by_cases e : b = M
    · subst e; exact h.2
    · exact used_false h.1 b (by omega)
/-- the first one of a row that is false -/
def firstF (f : Nat → Bool) (len : Nat) : Int := match (List.range len).find? (fun k => !f k) with | some k => (k : Int) | none => -1
theorem firstF_some {f : Nat → Bool} {len k : Nat} (hk : k < len) (h : f k = false) (hb : ∀ j, j < k → f j = true) : firstF f len = k := by
  have : (List.range len).find? (fun k => !f k) = some k := by
    rw [List.find?_range_eq_some]
    exact ⟨by simp [h], List.mem_range.2 hk, fun j hj => by simp [hb j hj]⟩
  unfold firstF; rw [this]
theorem firstF_none {f : Nat → Bool} {len : Nat} (hb : ∀ j, j < len → f j = true) : firstF f len = -1 := by
  have : (List.range len).find? (fun k => !f k) = none := by
    rw [List.find?_range_eq_none]
    intro j hj
    simp [hb j hj]
  unfold firstF; rw [this]
theorem of_firstF (f : Nat → Bool) (len : Nat) : (firstF f len = -1 ∧ ∀ j, j < len → f j = true) ∨ ∃ k : Nat, firstF f len = k ∧ k < len ∧ f k = false := by
  unfold firstF
  cases h : (List.range len).find? (fun k => !f k) with
  | none =>
    rw [List.find?_range_eq_none] at h
    exact .inl ⟨rfl, fun j hj => by simpa using h j hj⟩
  | some k =>
    rw [List.find?_range_eq_some] at h
    exact .inr ⟨k, rfl, List.mem_range.1 h.2.1, by simpa using h.1⟩
def usV (lines : Int) (cs : List (Int × Int)) : Int := if NV lines cs then firstF (fun k => used cs lines.toNat k (2 ^ lines.toNat)) cs.length else -1

theorem comp_nat {n : Nat} {cs : List (Int × Int)} (hN : NV n cs) {k : Nat} (h : k < cs.length) : ∃ x y : Nat, cs.getD k (0, 0) = ((x : Int), (y : Int)) ∧ x < y ∧ y < n := by
  have hNc := hN.2 _ (getD_mem h)
  unfold NVc at hNc
  refine ⟨(cs.getD k (0, 0)).1.toNat, (cs.getD k (0, 0)).2.toNat, ?_, by omega, by omega⟩
  apply Prod.ext
  · show _ = (((cs.getD k (0, 0)).1.toNat : Nat) : Int); omega
  · show _ = (((cs.getD k (0, 0)).2.toNat : Nat) : Int); omega
theorem exch_of {cs : List (Int × Int)} {n k b x y : Nat} (h : cs.getD k (0, 0) = ((x : Int), (y : Int))) : exch cs n k b = decide ((runs (cs.take k) (bitsL n b)).getD y 0 < (runs (cs.take k) (bitsL n b)).getD x 0) := by
  unfold exch; rw [h]; rfl
theorem take_nv {lines : Int} {cs : List (Int × Int)} (h : NV lines cs) (k : Nat) : NV lines (cs.take k) :=
  ⟨⟨h.1.1, h.1.2.1, by have := h.1.2.2; rw [List.length_take]; omega⟩, fun c hc => h.2 c (List.mem_of_mem_take hc)⟩

theorem specUs_at (σ : AHeap) (lines : Int) (h o : Nat) (cs : List (Int × Int)) (hv : PairsAt σ h o cs) (hl : cs.length ≤ 1048576) (hf : Fits cs) (hr : InR lines) :
    ACall Try.prog w0 63 [.int .i64 lines, .slice (some ⟨h, o, none⟩) cs.length 2] σ fun r σ' => r = .int .i64 (usV lines cs) ∧ σ' = σ := by
  unfold usV
  refine acall_go mixed Try.func63 rfl good63 fun pr => ?_
  simp -implicitDefEqProofs (disch := omega) only [List.any_cons, List.any_nil, Nat.reduceEqDiff, List.map_cons, List.map_nil, Option.map_some, Option.map_none, List.nil_append, ↓reduceIte, vcu0, vcu1, vcu2, vcu3, vcu4, vcu5, vcu6, vcu7, vcu8, vcu9, vcu10, vcu11, vcu12, vcu13, vcu14, vcu15, vcu16, vcu17, vcu18, vcu19, vcu20, vcu21, vcu22, vcu23, vcu24, vcu25, vcu26, ↓vcd0, ↓vcd1, ↓vcd2, ↓vcd3]
  by_cases hN : NV lines cs
  · rw [if_pos hN]
    have hN1 := hN.1
    obtain ⟨n, rfl⟩ : ∃ n : Nat, lines = n := ⟨lines.toNat, by omega⟩
    rw [Int.toNat_natCast]
    have hn : n ≤ 6 := by omega
    have hp := pow6 hn
    have hshl : ∀ {t : TypeId}, abin Try.prog t .shl (.int .i64 1) (.int .i64 (n : Int)) = some (.int .i64 ((2 ^ n : Nat) : Int)) := abin_shl1 (by omega)
    generalize hM : 2 ^ n = M at hp hshl
    refine vc_loop_c mixed (by kernel_rfl) [0, 1] (fun m a τ => ∃ k : Nat, m + k = cs.length ∧ a 5 = .int .i64 k ∧ Sub σ τ ∧ ∀ j, j < k → used cs n j M = true) cs.length ⟨0, by simp, rfl, Sub.refl _, fun j hj => absurd hj (by omega)⟩ ?_
    rintro m a τ hc ⟨k, hk, h5, hs, hup⟩
    simp -implicitDefEqProofs (disch := omega) only [List.any_cons, List.any_nil, Nat.reduceEqDiff, List.map_cons, List.map_nil, Option.map_some, Option.map_none, List.nil_append, ↓reduceIte, vcu0, vcu1, vcu2, vcu3, vcu4, vcu5, vcu6, vcu7, vcu8, vcu9, vcu10, vcu11, vcu12, vcu13, vcu14, vcu15, vcu16, vcu17, vcu18, vcu19, vcu20, vcu21, vcu22, vcu23, vcu24, vcu25, vcu26, ↓vcd0, ↓vcd1, ↓vcd2, ↓vcd3] at hc
    obtain ⟨h0, h1, -⟩ := hc
    by_cases hlt : k < cs.length
    · simp -implicitDefEqProofs (disch := omega) only [List.any_cons, List.any_nil, Nat.reduceEqDiff, List.map_cons, List.map_nil, Option.map_some, Option.map_none, List.nil_append, ↓reduceIte, vcu0, vcu1, vcu2, vcu3, vcu4, vcu5, vcu6, vcu7, vcu8, vcu9, vcu10, vcu11, vcu12, vcu13, vcu14, vcu15, vcu16, vcu17, vcu18, vcu19, vcu20, vcu21, vcu22, vcu23, vcu24, vcu25, vcu26, ↓vcd0, ↓vcd1, ↓vcd2, ↓vcd3, h0, h1, h5]
      refine (specNV_at τ _ h o cs (hv.sub hs) hl hf hr).mono ?_
      rintro r _ ⟨rfl, rfl⟩
      rename_i τ
      rw [decide_eq_true hN]
      simp -implicitDefEqProofs (disch := omega) only [List.any_cons, List.any_nil, Nat.reduceEqDiff, List.map_cons, List.map_nil, Option.map_some, Option.map_none, List.nil_append, ↓reduceIte, vcu0, vcu1, vcu2, vcu3, vcu4, vcu5, vcu6, vcu7, vcu8, vcu9, vcu10, vcu11, vcu12, vcu13, vcu14, vcu15, vcu16, vcu17, vcu18, vcu19, vcu20, vcu21, vcu22, vcu23, vcu24, vcu25, vcu26, ↓vcd0, ↓vcd1, ↓vcd2, ↓vcd3, opK_some, h0, h1, h5]
      refine vc_loop_c mixed (by kernel_rfl) [0, 1, 5] (fun m a τ2 => ∃ b : Nat, m + b = M ∧ a 7 = .int .i64 b ∧ a 6 = .bool (used cs n k b) ∧ Sub σ τ2) M ⟨0, by simp, rfl, rfl, hs⟩ ?_
      clear hs
      rintro m2 a2 τ2 hc2 ⟨b, hb, h7, h6, hs⟩
      simp -implicitDefEqProofs (disch := omega) only [List.any_cons, List.any_nil, Nat.reduceEqDiff, List.map_cons, List.map_nil, Option.map_some, Option.map_none, List.nil_append, ↓reduceIte, vcu0, vcu1, vcu2, vcu3, vcu4, vcu5, vcu6, vcu7, vcu8, vcu9, vcu10, vcu11, vcu12, vcu13, vcu14, vcu15, vcu16, vcu17, vcu18, vcu19, vcu20, vcu21, vcu22, vcu23, vcu24, vcu25, vcu26, ↓vcd0, ↓vcd1, ↓vcd2, ↓vcd3, h0, h1, h5] at hc2
      obtain ⟨g0, g1, g5, -⟩ := hc2
      by_cases hbM : b < M
      · obtain ⟨q1, q2⟩ := hv k hlt
        obtain ⟨x, y, hcc, hxy, hyn⟩ := comp_nat hN hlt
        have hx := exch_of (n := n) (b := b) hcc
        rw [hcc] at q1 q2
        dsimp only at q1 q2
        simp -implicitDefEqProofs (disch := omega) only [List.any_cons, List.any_nil, Nat.reduceEqDiff, List.map_cons, List.map_nil, Option.map_some, Option.map_none, List.nil_append, ↓reduceIte, vcu0, vcu1, vcu2, vcu3, vcu4, vcu5, vcu6, vcu7, vcu8, vcu9, vcu10, vcu11, vcu12, vcu13, vcu14, vcu15, vcu16, vcu17, vcu18, vcu19, vcu20, vcu21, vcu22, vcu23, vcu24, vcu25, vcu26, ↓vcd0, ↓vcd1, ↓vcd2, ↓vcd3, g0, g1, g5, h6, h7, hshl]
        refine region_tree mixed (quiets [0, 1, 2, 3, 4, 5] (.one 6 (.one 7 (quiets [8] .stop)))) [] (by kernel_rfl) (by kernel_rfl) (fun p hp => absurd hp (by simp)) ?_
        refine tree_quiets (fun _ => none) _ _ _ (fun _ _ _ _ => fun x ob e => by cases e) (by kernel_rfl) (by kernel_rfl) ?_
        simp -implicitDefEqProofs (disch := omega) only [List.any_cons, List.any_nil, Nat.reduceEqDiff, List.map_cons, List.map_nil, Option.map_some, Option.map_none, List.nil_append, ↓reduceIte, vcu0, vcu1, vcu2, vcu3, vcu4, vcu5, vcu6, vcu7, vcu8, vcu9, vcu10, vcu11, vcu12, vcu13, vcu14, vcu15, vcu16, vcu17, vcu18, vcu19, vcu20, vcu21, vcu22, vcu23, vcu24, vcu25, vcu26, ↓vcd0, ↓vcd1, ↓vcd2, ↓vcd3, pickOps_nil, pickOps_cons, pickO_some, List.getElem?_cons_succ, List.getElem?_cons_zero, g0, g1, g5, h6, h7]
        refine tree_one rfl ?_
        simp -implicitDefEqProofs (disch := omega) only [List.any_cons, List.any_nil, Nat.reduceEqDiff, List.map_cons, List.map_nil, Option.map_some, Option.map_none, List.nil_append, ↓reduceIte, vcu0, vcu1, vcu2, vcu3, vcu4, vcu5, vcu6, vcu7, vcu8, vcu9, vcu10, vcu11, vcu12, vcu13, vcu14, vcu15, vcu16, vcu17, vcu18, vcu19, vcu20, vcu21, vcu22, vcu23, vcu24, vcu25, vcu26, ↓vcd0, ↓vcd1, ↓vcd2, ↓vcd3]
        refine (specBits_at τ2 n b hn (by omega)).mono ?_
        rintro r τ3 ⟨g, ng, rfl, s3, e3⟩
        simp -implicitDefEqProofs (disch := omega) only [List.any_cons, List.any_nil, Nat.reduceEqDiff, List.map_cons, List.map_nil, Option.map_some, Option.map_none, List.nil_append, ↓reduceIte, vcu0, vcu1, vcu2, vcu3, vcu4, vcu5, vcu6, vcu7, vcu8, vcu9, vcu10, vcu11, vcu12, vcu13, vcu14, vcu15, vcu16, vcu17, vcu18, vcu19, vcu20, vcu21, vcu22, vcu23, vcu24, vcu25, vcu26, ↓vcd0, ↓vcd1, ↓vcd2, ↓vcd3, opK_some]
        refine ⟨keep_of rfl (fun p hp => absurd hp (by simp)), tree_one rfl ?_⟩
        simp -implicitDefEqProofs (disch := omega) only [List.any_cons, List.any_nil, Nat.reduceEqDiff, List.map_cons, List.map_nil, Option.map_some, Option.map_none, List.nil_append, ↓reduceIte, vcu0, vcu1, vcu2, vcu3, vcu4, vcu5, vcu6, vcu7, vcu8, vcu9, vcu10, vcu11, vcu12, vcu13, vcu14, vcu15, vcu16, vcu17, vcu18, vcu19, vcu20, vcu21, vcu22, vcu23, vcu24, vcu25, vcu26, ↓vcd0, ↓vcd1, ↓vcd2, ↓vcd3]
        have hrun := specRun_at (w0 := w0) τ3 (n : Int) h o (cs.take k) g 0 (bitsL n b) (pairsAt_take ((hv.sub hs).sub s3) k) (intsAt_own e3) (by rw [List.length_take]; omega) (by rw [bitsL_length]; omega) (fun c hc => hf c (List.mem_of_mem_take hc)) hr
        rw [bitsL_length, if_pos ⟨take_nv hN k, by rw [bitsL_length]⟩, List.length_take, Nat.min_eq_left (by omega)] at hrun
        refine hrun.mono ?_
        rintro r τ4 ⟨g4, zs, hzs, n4, rfl, s4, e4⟩
        subst hzs
        simp -implicitDefEqProofs (disch := omega) only [List.any_cons, List.any_nil, Nat.reduceEqDiff, List.map_cons, List.map_nil, Option.map_some, Option.map_none, List.nil_append, ↓reduceIte, vcu0, vcu1, vcu2, vcu3, vcu4, vcu5, vcu6, vcu7, vcu8, vcu9, vcu10, vcu11, vcu12, vcu13, vcu14, vcu15, vcu16, vcu17, vcu18, vcu19, vcu20, vcu21, vcu22, vcu23, vcu24, vcu25, vcu26, ↓vcd0, ↓vcd1, ↓vcd2, ↓vcd3, opK_some]
        refine ⟨keep_of rfl (fun p hp => absurd hp (by simp)), ?_⟩
        refine tree_quiets (fun _ => none) _ _ _ (fun _ _ _ _ => fun x ob e => by cases e) (by kernel_rfl) (by kernel_rfl) ?_
        simp -implicitDefEqProofs (disch := omega) only [List.any_cons, List.any_nil, Nat.reduceEqDiff, List.map_cons, List.map_nil, Option.map_some, Option.map_none, List.nil_append, ↓reduceIte, vcu0, vcu1, vcu2, vcu3, vcu4, vcu5, vcu6, vcu7, vcu8, vcu9, vcu10, vcu11, vcu12, vcu13, vcu14, vcu15, vcu16, vcu17, vcu18, vcu19, vcu20, vcu21, vcu22, vcu23, vcu24, vcu25, vcu26, ↓vcd0, ↓vcd1, ↓vcd2, ↓vcd3, pickOps_nil, pickOps_cons, pickO_some, List.getElem?_cons_succ, List.getElem?_cons_zero]
        refine tree_stop ?_
        have hs4 := (hs.trans s3).trans s4
        have hrl : (runs (cs.take k) (bitsL n b)).length = n := by rw [runs_length, bitsL_length]
        generalize runs (cs.take k) (bitsL n b) = zs at e4 hrl hx
        have z1 := own_at e4 (show x < zs.length by omega)
        have z2 := own_at e4 (show y < zs.length by omega)
        generalize zs.getD x 0 = u at z1 hx
        generalize zs.getD y 0 = v at z2 hx
        have p1 := ld_sub hs4 q1
        have p2 := ld_sub hs4 q2
        have hus : used cs n k (b + 1) = (used cs n k b || exch cs n k b) := rfl
        by_cases hu : used cs n k b = true
        · rw [hu] at h6
          rw [hu, Bool.true_or] at hus
          simp -implicitDefEqProofs (disch := omega) only [List.any_cons, List.any_nil, Nat.reduceEqDiff, List.map_cons, List.map_nil, Option.map_some, Option.map_none, List.nil_append, ↓reduceIte, vcu0, vcu1, vcu2, vcu3, vcu4, vcu5, vcu6, vcu7, vcu8, vcu9, vcu10, vcu11, vcu12, vcu13, vcu14, vcu15, vcu16, vcu17, vcu18, vcu19, vcu20, vcu21, vcu22, vcu23, vcu24, vcu25, vcu26, ↓vcd0, ↓vcd1, ↓vcd2, ↓vcd3, g0, g1, g5, h6, h7]
          exact ⟨⟨h0.symm, h1.symm, h5.symm, trivial⟩, m2 - 1, by omega, b + 1, by omega, by simp, by rw [hus], hs4⟩
        · rw [Bool.not_eq_true] at hu
          rw [hu] at h6
          rw [hu, Bool.false_or, hx] at hus
          simp -implicitDefEqProofs (disch := omega) only [List.any_cons, List.any_nil, Nat.reduceEqDiff, List.map_cons, List.map_nil, Option.map_some, Option.map_none, List.nil_append, ↓reduceIte, vcu0, vcu1, vcu2, vcu3, vcu4, vcu5, vcu6, vcu7, vcu8, vcu9, vcu10, vcu11, vcu12, vcu13, vcu14, vcu15, vcu16, vcu17, vcu18, vcu19, vcu20, vcu21, vcu22, vcu23, vcu24, vcu25, vcu26, ↓vcd0, ↓vcd1, ↓vcd2, ↓vcd3, g0, g1, g5, h6, h7, p1, p2, z1, z2, hrl, Nat.add_zero]
          exact ⟨⟨h0.symm, h1.symm, h5.symm, trivial⟩, m2 - 1, by omega, b + 1, by omega, by simp, by rw [hus], hs4⟩
      · have e : b = M := by omega
        subst e
        by_cases hu : used cs n k b = true
        · rw [hu] at h6
          simp -implicitDefEqProofs (disch := omega) only [List.any_cons, List.any_nil, Nat.reduceEqDiff, List.map_cons, List.map_nil, Option.map_some, Option.map_none, List.nil_append, ↓reduceIte, vcu0, vcu1, vcu2, vcu3, vcu4, vcu5, vcu6, vcu7, vcu8, vcu9, vcu10, vcu11, vcu12, vcu13, vcu14, vcu15, vcu16, vcu17, vcu18, vcu19, vcu20, vcu21, vcu22, vcu23, vcu24, vcu25, vcu26, ↓vcd0, ↓vcd1, ↓vcd2, ↓vcd3, g0, g1, g5, h6, h7, hshl]
          refine ⟨⟨trivial, trivial, trivial⟩, m - 1, by omega, k + 1, by omega, by simp, hs, fun j hj => ?_⟩
          by_cases e : j = k
          · subst e; exact hu
          · exact hup j (by omega)
        · rw [Bool.not_eq_true] at hu
          rw [hu] at h6
          simp -implicitDefEqProofs (disch := omega) only [List.any_cons, List.any_nil, Nat.reduceEqDiff, List.map_cons, List.map_nil, Option.map_some, Option.map_none, List.nil_append, ↓reduceIte, vcu0, vcu1, vcu2, vcu3, vcu4, vcu5, vcu6, vcu7, vcu8, vcu9, vcu10, vcu11, vcu12, vcu13, vcu14, vcu15, vcu16, vcu17, vcu18, vcu19, vcu20, vcu21, vcu22, vcu23, vcu24, vcu25, vcu26, ↓vcd0, ↓vcd1, ↓vcd2, ↓vcd3, g0, g1, g5, h6, h7, hshl]
          refine fin_drop Try.results63 σ hs ⟨?_, rfl⟩
          simp -implicitDefEqProofs (disch := omega) only [List.any_cons, List.any_nil, Nat.reduceEqDiff, List.map_cons, List.map_nil, Option.map_some, Option.map_none, List.nil_append, ↓reduceIte, vcu0, vcu1, vcu2, vcu3, vcu4, vcu5, vcu6, vcu7, vcu8, vcu9, vcu10, vcu11, vcu12, vcu13, vcu14, vcu15, vcu16, vcu17, vcu18, vcu19, vcu20, vcu21, vcu22, vcu23, vcu24, vcu25, vcu26, ↓vcd0, ↓vcd1, ↓vcd2, ↓vcd3, g5]
          rw [firstF_some hlt hu hup]
    · simp -implicitDefEqProofs (disch := omega) only [List.any_cons, List.any_nil, Nat.reduceEqDiff, List.map_cons, List.map_nil, Option.map_some, Option.map_none, List.nil_append, ↓reduceIte, vcu0, vcu1, vcu2, vcu3, vcu4, vcu5, vcu6, vcu7, vcu8, vcu9, vcu10, vcu11, vcu12, vcu13, vcu14, vcu15, vcu16, vcu17, vcu18, vcu19, vcu20, vcu21, vcu22, vcu23, vcu24, vcu25, vcu26, ↓vcd0, ↓vcd1, ↓vcd2, ↓vcd3, h0, h1, h5]
      have e : k = cs.length := by omega
      subst e
      refine fin_drop Try.results63 σ hs ⟨?_, rfl⟩
      simp -implicitDefEqProofs (disch := omega) only [List.any_cons, List.any_nil, Nat.reduceEqDiff, List.map_cons, List.map_nil, Option.map_some, Option.map_none, List.nil_append, ↓reduceIte, vcu0, vcu1, vcu2, vcu3, vcu4, vcu5, vcu6, vcu7, vcu8, vcu9, vcu10, vcu11, vcu12, vcu13, vcu14, vcu15, vcu16, vcu17, vcu18, vcu19, vcu20, vcu21, vcu22, vcu23, vcu24, vcu25, vcu26, ↓vcd0, ↓vcd1, ↓vcd2, ↓vcd3]
      rw [firstF_none hup]
  · rw [if_neg hN]
    refine vc_loop_c mixed (by kernel_rfl) [0, 1, 5] (fun m a τ => τ = σ) 0 rfl ?_
    rintro m a τ hc rfl
    simp -implicitDefEqProofs (disch := omega) only [List.any_cons, List.any_nil, Nat.reduceEqDiff, List.map_cons, List.map_nil, Option.map_some, Option.map_none, List.nil_append, ↓reduceIte, vcu0, vcu1, vcu2, vcu3, vcu4, vcu5, vcu6, vcu7, vcu8, vcu9, vcu10, vcu11, vcu12, vcu13, vcu14, vcu15, vcu16, vcu17, vcu18, vcu19, vcu20, vcu21, vcu22, vcu23, vcu24, vcu25, vcu26, ↓vcd0, ↓vcd1, ↓vcd2, ↓vcd3] at hc
    obtain ⟨h0, h1, h5, -⟩ := hc
    by_cases hz : 0 < cs.length
    · simp -implicitDefEqProofs (disch := omega) only [List.any_cons, List.any_nil, Nat.reduceEqDiff, List.map_cons, List.map_nil, Option.map_some, Option.map_none, List.nil_append, ↓reduceIte, vcu0, vcu1, vcu2, vcu3, vcu4, vcu5, vcu6, vcu7, vcu8, vcu9, vcu10, vcu11, vcu12, vcu13, vcu14, vcu15, vcu16, vcu17, vcu18, vcu19, vcu20, vcu21, vcu22, vcu23, vcu24, vcu25, vcu26, ↓vcd0, ↓vcd1, ↓vcd2, ↓vcd3, h0, h1, h5]
      refine (specNV_at _ _ h o cs hv hl hf hr).mono ?_
      rintro r _ ⟨rfl, rfl⟩
      rw [decide_eq_false hN]
      simp -implicitDefEqProofs (disch := omega) only [List.any_cons, List.any_nil, Nat.reduceEqDiff, List.map_cons, List.map_nil, Option.map_some, Option.map_none, List.nil_append, ↓reduceIte, vcu0, vcu1, vcu2, vcu3, vcu4, vcu5, vcu6, vcu7, vcu8, vcu9, vcu10, vcu11, vcu12, vcu13, vcu14, vcu15, vcu16, vcu17, vcu18, vcu19, vcu20, vcu21, vcu22, vcu23, vcu24, vcu25, vcu26, ↓vcd0, ↓vcd1, ↓vcd2, ↓vcd3, opK_some]
      refine fin_one Try.results63 ⟨?_, rfl⟩
      simp -implicitDefEqProofs (disch := omega) only [List.any_cons, List.any_nil, Nat.reduceEqDiff, List.map_cons, List.map_nil, Option.map_some, Option.map_none, List.nil_append, ↓reduceIte, vcu0, vcu1, vcu2, vcu3, vcu4, vcu5, vcu6, vcu7, vcu8, vcu9, vcu10, vcu11, vcu12, vcu13, vcu14, vcu15, vcu16, vcu17, vcu18, vcu19, vcu20, vcu21, vcu22, vcu23, vcu24, vcu25, vcu26, ↓vcd0, ↓vcd1, ↓vcd2, ↓vcd3]
    · simp -implicitDefEqProofs (disch := omega) only [List.any_cons, List.any_nil, Nat.reduceEqDiff, List.map_cons, List.map_nil, Option.map_some, Option.map_none, List.nil_append, ↓reduceIte, vcu0, vcu1, vcu2, vcu3, vcu4, vcu5, vcu6, vcu7, vcu8, vcu9, vcu10, vcu11, vcu12, vcu13, vcu14, vcu15, vcu16, vcu17, vcu18, vcu19, vcu20, vcu21, vcu22, vcu23, vcu24, vcu25, vcu26, ↓vcd0, ↓vcd1, ↓vcd2, ↓vcd3, h0, h1, h5]
      refine fin_one Try.results63 ⟨?_, rfl⟩
      simp -implicitDefEqProofs (disch := omega) only [List.any_cons, List.any_nil, Nat.reduceEqDiff, List.map_cons, List.map_nil, Option.map_some, Option.map_none, List.nil_append, ↓reduceIte, vcu0, vcu1, vcu2, vcu3, vcu4, vcu5, vcu6, vcu7, vcu8, vcu9, vcu10, vcu11, vcu12, vcu13, vcu14, vcu15, vcu16, vcu17, vcu18, vcu19, vcu20, vcu21, vcu22, vcu23, vcu24, vcu25, vcu26, ↓vcd0, ↓vcd1, ↓vcd2, ↓vcd3]
end Go.Proofs.Ytnkpoflhdfchjaa

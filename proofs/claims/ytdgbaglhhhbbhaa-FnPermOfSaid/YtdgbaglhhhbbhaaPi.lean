/- PermThen of the program and of the reference. -/
import Derived.Test.YtdgbaglhhhbbhaaPh
set_option linter.unusedSimpArgs false
set_option linter.unusedVariables false
namespace Go.Proofs.Ytdgbaglhhhbbhaa
open Go Go.Abs Go.RowKit
variable {w0 : World}

def Both (xs ys : List Int) : Prop := xs.length = ys.length ∧ Valid xs ∧ Valid ys
instance (xs ys : List Int) : Decidable (Both xs ys) := by unfold Both; infer_instance
def thn (xs ys : List Int) (k : Nat) : List Int := (List.range k).map fun i => ys.getD (xs.getD i 0).toNat 0
theorem thn_length (xs ys : List Int) (k : Nat) : (thn xs ys k).length = k := by simp [thn]
theorem thn_succ (xs ys : List Int) (k : Nat) : thn xs ys (k + 1) = thn xs ys k ++ [ys.getD (xs.getD k 0).toNat 0] := by simp [thn, List.range_succ]
theorem set_zeros {A : List Int} {k m : Nat} (v : Int) (h : A.length = k) (hm : 0 < m) : (A ++ List.replicate m 0).set k v = A ++ [v] ++ List.replicate (m - 1) 0 := by
  obtain ⟨m, rfl⟩ : ∃ m', m = m' + 1 := ⟨m - 1, by omega⟩
  rw [List.set_append_right _ _ (by omega), h, Nat.sub_self, List.append_assoc]
  rfl

theorem implThen_at (σ : AHeap) (h o h' o' : Nat) (xs ys : List Int) (hv : IntsAt .i64 σ h o xs) (hu : IntsAt .i64 σ h' o' ys) (hl : xs.length ≤ 1048576) (hl2 : ys.length ≤ 1048576) :
    ACall Try.prog w0 28 [.slice (some ⟨h, o, none⟩) xs.length 1, .slice (some ⟨h', o', none⟩) ys.length 1] σ fun r σ' => (¬ Both xs ys ∧ r = .slice none 0 0 ∧ σ' = σ) ∨ (Both xs ys ∧ ∃ g, σ g = none ∧ r = .slice (some ⟨g, 0, none⟩) xs.length 1 ∧ σ' = σ.upd g (some ⟨ints .i64 (thn xs ys xs.length), false⟩)) := by
  refine acall_go mixed Try.func28 rfl good28 ?_
  by_cases hle : xs.length = ys.length
  · simp -implicitDefEqProofs (disch := omega) only [List.any_cons, List.any_nil, Nat.reduceEqDiff, List.map_cons, List.map_nil, Option.map_some, Option.map_none, List.nil_append, ↓reduceIte, vcu0, vcu1, vcu2, vcu3, vcu4, vcu5, vcu6, vcu7, vcu8, vcu9, vcu10, vcu11, vcu12, vcu13, vcu14, ↓vcd0, ↓vcd1, ↓vcd2]
    refine (implValid_at σ h o xs hv hl).mono ?_
    rintro r σ' ⟨rfl, rfl⟩
    by_cases hV : Valid xs
    · rw [decide_eq_true hV]
      simp -implicitDefEqProofs (disch := omega) only [List.any_cons, List.any_nil, Nat.reduceEqDiff, List.map_cons, List.map_nil, Option.map_some, Option.map_none, List.nil_append, ↓reduceIte, vcu0, vcu1, vcu2, vcu3, vcu4, vcu5, vcu6, vcu7, vcu8, vcu9, vcu10, vcu11, vcu12, vcu13, vcu14, ↓vcd0, ↓vcd1, ↓vcd2, opK_some]
      refine (implValid_at σ' h' o' ys hu hl2).mono ?_
      rintro r σ1 ⟨rfl, rfl⟩
      by_cases hU : Valid ys
      · have hB : Both xs ys := ⟨hle, hV, hU⟩
        have h6 := hV.2
        rw [decide_eq_true hU]
        simp -implicitDefEqProofs (disch := omega) only [List.any_cons, List.any_nil, Nat.reduceEqDiff, List.map_cons, List.map_nil, Option.map_some, Option.map_none, List.nil_append, ↓reduceIte, vcu0, vcu1, vcu2, vcu3, vcu4, vcu5, vcu6, vcu7, vcu8, vcu9, vcu10, vcu11, vcu12, vcu13, vcu14, ↓vcd0, ↓vcd1, ↓vcd2, opK_some]
        refine r_make_at Try.underlying23 (i := Try.t3) (z := .int .i64 0) rfl rfl (kx := .i64) (l := xs.length) (ky := .i64) (c := xs.length) (by simp -implicitDefEqProofs (disch := omega) only [List.any_cons, List.any_nil, Nat.reduceEqDiff, List.map_cons, List.map_nil, Option.map_some, Option.map_none, List.nil_append, ↓reduceIte, vcu0, vcu1, vcu2, vcu3, vcu4, vcu5, vcu6, vcu7, vcu8, vcu9, vcu10, vcu11, vcu12, vcu13, vcu14, ↓vcd0, ↓vcd1, ↓vcd2]) (by simp -implicitDefEqProofs (disch := omega) only [List.any_cons, List.any_nil, Nat.reduceEqDiff, List.map_cons, List.map_nil, Option.map_some, Option.map_none, List.nil_append, ↓reduceIte, vcu0, vcu1, vcu2, vcu3, vcu4, vcu5, vcu6, vcu7, vcu8, vcu9, vcu10, vcu11, vcu12, vcu13, vcu14, ↓vcd0, ↓vcd1, ↓vcd2]) ?_ fun g hg => ?_
        · have : ((Try.t3.bytes : Nat) : Int) = 8 := rfl
          rw [this]; omega
        have e1 : Try.t3.size = 1 := rfl
        rw [e1, Nat.mul_one, azeros_ints]
        simp -implicitDefEqProofs (disch := omega) only [List.any_cons, List.any_nil, Nat.reduceEqDiff, List.map_cons, List.map_nil, Option.map_some, Option.map_none, List.nil_append, ↓reduceIte, vcu0, vcu1, vcu2, vcu3, vcu4, vcu5, vcu6, vcu7, vcu8, vcu9, vcu10, vcu11, vcu12, vcu13, vcu14, ↓vcd0, ↓vcd1, ↓vcd2]
        refine vc_loop mixed (by kernel_rfl) (fun m a σ2 => ∃ k : Nat, m + k = xs.length ∧ a 1 = .slice (some ⟨h', o', none⟩) ys.length 1 ∧ a 5 = .slice (some ⟨g, 0, none⟩) xs.length 1 ∧ a 26 = .slice (some ⟨h, o, none⟩) xs.length 1 ∧ a 27 = .int .i64 xs.length ∧ a 28 = .int .i64 k ∧
            σ2 = σ1.upd g (some ⟨ints .i64 (thn xs ys k ++ List.replicate (xs.length - k) 0), false⟩)) xs.length ⟨0, by simp, rfl, rfl, rfl, rfl, rfl, by simp [thn]⟩ ?_
        rintro m a σ2 ⟨k, hk, h1, h5, h26, h27, h28, rfl⟩
        by_cases hlt : k < xs.length
        · have hx := (hv.sub (sub_upd (o := some ⟨ints .i64 (thn xs ys k ++ List.replicate (xs.length - k) 0), false⟩) hg)) k hlt
          have hr := hV.1.1 (xs.getD k 0) (by simp [List.getD, hlt])
          have hts := thn_succ xs ys k
          generalize xs.getD k 0 = x at hx hr hts
          have hy := (hu.sub (sub_upd (o := some ⟨ints .i64 (thn xs ys k ++ List.replicate (xs.length - k) 0), false⟩) hg)) x.toNat (by omega)
          generalize ys.getD x.toNat 0 = y at hy hts
          simp -implicitDefEqProofs (disch := omega) only [List.any_cons, List.any_nil, Nat.reduceEqDiff, List.map_cons, List.map_nil, Option.map_some, Option.map_none, List.nil_append, ↓reduceIte, vcu0, vcu1, vcu2, vcu3, vcu4, vcu5, vcu6, vcu7, vcu8, vcu9, vcu10, vcu11, vcu12, vcu13, vcu14, ↓vcd0, ↓vcd1, ↓vcd2, h1, h5, h26, h27, h28, hx, hy]
          have hst := sts_one (σ := σ1.upd g (some ⟨ints .i64 (thn xs ys k ++ List.replicate (xs.length - k) 0), false⟩)) (h := g) (cs := ints .i64 (thn xs ys k ++ List.replicate (xs.length - k) 0)) (i := 0 + k) (v := .int .i64 y) (AHeap.upd_same _ _ _) (by rw [ints_length]; simp [thn_length]; omega)
          refine r_store_at (h := g) (i := 0 + k) (by simp -implicitDefEqProofs (disch := omega) only [List.any_cons, List.any_nil, Nat.reduceEqDiff, List.map_cons, List.map_nil, Option.map_some, Option.map_none, List.nil_append, ↓reduceIte, vcu0, vcu1, vcu2, vcu3, vcu4, vcu5, vcu6, vcu7, vcu8, vcu9, vcu10, vcu11, vcu12, vcu13, vcu14, ↓vcd0, ↓vcd1, ↓vcd2, h5]) (by simp -implicitDefEqProofs (disch := omega) only [List.any_cons, List.any_nil, Nat.reduceEqDiff, List.map_cons, List.map_nil, Option.map_some, Option.map_none, List.nil_append, ↓reduceIte, vcu0, vcu1, vcu2, vcu3, vcu4, vcu5, vcu6, vcu7, vcu8, vcu9, vcu10, vcu11, vcu12, vcu13, vcu14, ↓vcd0, ↓vcd1, ↓vcd2]; rfl) (by simp -implicitDefEqProofs (disch := omega) only [List.any_cons, List.any_nil, Nat.reduceEqDiff, List.map_cons, List.map_nil, Option.map_some, Option.map_none, List.nil_append, ↓reduceIte, vcu0, vcu1, vcu2, vcu3, vcu4, vcu5, vcu6, vcu7, vcu8, vcu9, vcu10, vcu11, vcu12, vcu13, vcu14, ↓vcd0, ↓vcd1, ↓vcd2]; rfl) (by simp -implicitDefEqProofs (disch := omega) only [List.any_cons, List.any_nil, Nat.reduceEqDiff, List.map_cons, List.map_nil, Option.map_some, Option.map_none, List.nil_append, ↓reduceIte, vcu0, vcu1, vcu2, vcu3, vcu4, vcu5, vcu6, vcu7, vcu8, vcu9, vcu10, vcu11, vcu12, vcu13, vcu14, ↓vcd0, ↓vcd1, ↓vcd2]; exact hst) ?_
          rw [ints_set, Nat.zero_add, set_zeros y (thn_length xs ys k) (by omega), ← hts, AHeap.upd_upd, Nat.sub_sub]
          simp -implicitDefEqProofs (disch := omega) only [List.any_cons, List.any_nil, Nat.reduceEqDiff, List.map_cons, List.map_nil, Option.map_some, Option.map_none, List.nil_append, ↓reduceIte, vcu0, vcu1, vcu2, vcu3, vcu4, vcu5, vcu6, vcu7, vcu8, vcu9, vcu10, vcu11, vcu12, vcu13, vcu14, ↓vcd0, ↓vcd1, ↓vcd2, h1, h5, h26, h27, h28]
          exact ⟨m - 1, by omega, k + 1, by omega, trivial, trivial, trivial, trivial, by simp, rfl⟩
        · simp -implicitDefEqProofs (disch := omega) only [List.any_cons, List.any_nil, Nat.reduceEqDiff, List.map_cons, List.map_nil, Option.map_some, Option.map_none, List.nil_append, ↓reduceIte, vcu0, vcu1, vcu2, vcu3, vcu4, vcu5, vcu6, vcu7, vcu8, vcu9, vcu10, vcu11, vcu12, vcu13, vcu14, ↓vcd0, ↓vcd1, ↓vcd2, h1, h5, h26, h27, h28]
          refine fin_one Try.results28 (.inr ⟨hB, g, hg, ?_, ?_⟩)
          · simp -implicitDefEqProofs (disch := omega) only [List.any_cons, List.any_nil, Nat.reduceEqDiff, List.map_cons, List.map_nil, Option.map_some, Option.map_none, List.nil_append, ↓reduceIte, vcu0, vcu1, vcu2, vcu3, vcu4, vcu5, vcu6, vcu7, vcu8, vcu9, vcu10, vcu11, vcu12, vcu13, vcu14, ↓vcd0, ↓vcd1, ↓vcd2, h5]
          · have e2 : k = xs.length := by omega
            rw [e2]; simp
      · rw [decide_eq_false hU]
        simp -implicitDefEqProofs (disch := omega) only [List.any_cons, List.any_nil, Nat.reduceEqDiff, List.map_cons, List.map_nil, Option.map_some, Option.map_none, List.nil_append, ↓reduceIte, vcu0, vcu1, vcu2, vcu3, vcu4, vcu5, vcu6, vcu7, vcu8, vcu9, vcu10, vcu11, vcu12, vcu13, vcu14, ↓vcd0, ↓vcd1, ↓vcd2, opK_some]
        refine fin_one Try.results28 (.inl ⟨fun hB => hU hB.2.2, ?_, rfl⟩)
        simp -implicitDefEqProofs (disch := omega) only [List.any_cons, List.any_nil, Nat.reduceEqDiff, List.map_cons, List.map_nil, Option.map_some, Option.map_none, List.nil_append, ↓reduceIte, vcu0, vcu1, vcu2, vcu3, vcu4, vcu5, vcu6, vcu7, vcu8, vcu9, vcu10, vcu11, vcu12, vcu13, vcu14, ↓vcd0, ↓vcd1, ↓vcd2]
    · rw [decide_eq_false hV]
      simp -implicitDefEqProofs (disch := omega) only [List.any_cons, List.any_nil, Nat.reduceEqDiff, List.map_cons, List.map_nil, Option.map_some, Option.map_none, List.nil_append, ↓reduceIte, vcu0, vcu1, vcu2, vcu3, vcu4, vcu5, vcu6, vcu7, vcu8, vcu9, vcu10, vcu11, vcu12, vcu13, vcu14, ↓vcd0, ↓vcd1, ↓vcd2, opK_some]
      refine fin_one Try.results28 (.inl ⟨fun hB => hV hB.2.1, ?_, rfl⟩)
      simp -implicitDefEqProofs (disch := omega) only [List.any_cons, List.any_nil, Nat.reduceEqDiff, List.map_cons, List.map_nil, Option.map_some, Option.map_none, List.nil_append, ↓reduceIte, vcu0, vcu1, vcu2, vcu3, vcu4, vcu5, vcu6, vcu7, vcu8, vcu9, vcu10, vcu11, vcu12, vcu13, vcu14, ↓vcd0, ↓vcd1, ↓vcd2]
  · simp -implicitDefEqProofs (disch := omega) only [List.any_cons, List.any_nil, Nat.reduceEqDiff, List.map_cons, List.map_nil, Option.map_some, Option.map_none, List.nil_append, ↓reduceIte, vcu0, vcu1, vcu2, vcu3, vcu4, vcu5, vcu6, vcu7, vcu8, vcu9, vcu10, vcu11, vcu12, vcu13, vcu14, ↓vcd0, ↓vcd1, ↓vcd2]
    refine fin_one Try.results28 (.inl ⟨fun hB => hle hB.1, ?_, rfl⟩)
    simp -implicitDefEqProofs (disch := omega) only [List.any_cons, List.any_nil, Nat.reduceEqDiff, List.map_cons, List.map_nil, Option.map_some, Option.map_none, List.nil_append, ↓reduceIte, vcu0, vcu1, vcu2, vcu3, vcu4, vcu5, vcu6, vcu7, vcu8, vcu9, vcu10, vcu11, vcu12, vcu13, vcu14, ↓vcd0, ↓vcd1, ↓vcd2]

theorem appd_one (S : List Int) (n : Int) : appd (List.drop 0 (ints .i64 S)) (S.length * 1) [.int .i64 n] = ints .i64 (S ++ [n]) := by
  unfold appd
  rw [if_neg (by simp [ints_length]), List.drop_zero, Nat.mul_one, List.take_of_length_le (by simp [ints_length])]
  simp [ints]

theorem specThen_at (σ : AHeap) (h o h' o' : Nat) (xs ys : List Int) (hv : IntsAt .i64 σ h o xs) (hu : IntsAt .i64 σ h' o' ys) (hl : xs.length ≤ 1048576) (hl2 : ys.length ≤ 1048576) :
    ACall Try.prog w0 30 [.slice (some ⟨h, o, none⟩) xs.length 1, .slice (some ⟨h', o', none⟩) ys.length 1] σ fun r σ' => ∃ (g : Nat) (zs : List Int), zs = (if Both xs ys then thn xs ys xs.length else []) ∧ σ g = none ∧ r = .slice (some ⟨g, 0, none⟩) zs.length 1 ∧ Sub σ σ' ∧ σ' g = some ⟨ints .i64 zs, false⟩ := by
  refine acall_go mixed Try.func30 rfl good30 ?_
  simp -implicitDefEqProofs (disch := omega) only [List.any_cons, List.any_nil, Nat.reduceEqDiff, List.map_cons, List.map_nil, Option.map_some, Option.map_none, List.nil_append, ↓reduceIte, vcu0, vcu1, vcu2, vcu3, vcu4, vcu5, vcu6, vcu7, vcu8, vcu9, vcu10, vcu11, vcu12, vcu13, vcu14, ↓vcd0, ↓vcd1, ↓vcd2]
  refine r_lit_at Try.underlying23 ze3 (out := #[]) (by kernel_rfl) (by kernel_rfl) fun g hg => ?_
  simp -implicitDefEqProofs (disch := omega) only [List.any_cons, List.any_nil, Nat.reduceEqDiff, List.map_cons, List.map_nil, Option.map_some, Option.map_none, List.nil_append, ↓reduceIte, vcu0, vcu1, vcu2, vcu3, vcu4, vcu5, vcu6, vcu7, vcu8, vcu9, vcu10, vcu11, vcu12, vcu13, vcu14, ↓vcd0, ↓vcd1, ↓vcd2]
  refine vc_loop mixed (by kernel_rfl) (fun m a τ => ∃ (k g : Nat), m + k = xs.length ∧ (0 < k → Both xs ys) ∧ a 0 = .slice (some ⟨h, o, none⟩) xs.length 1 ∧ a 1 = .slice (some ⟨h', o', none⟩) ys.length 1 ∧ a 5 = .slice (some ⟨g, 0, none⟩) k 1 ∧ a 6 = .int .i64 k ∧
      Sub σ τ ∧ σ g = none ∧ τ g = some ⟨ints .i64 (thn xs ys k), false⟩) xs.length ⟨0, g, by simp, by simp, rfl, rfl, rfl, rfl, sub_upd hg, hg, AHeap.upd_same _ _ _⟩ ?_
  clear hg g
  rintro m a τ ⟨k, g, hk, hB, h0, h1, h5, h6, hs, hg, hgv⟩
  have stop : (k < xs.length → ¬ Both xs ys) → ∃ (g' : Nat) (zs : List Int), zs = (if Both xs ys then thn xs ys xs.length else []) ∧ σ g' = none ∧ Value.slice (some ⟨g, 0, none⟩) k 1 = .slice (some ⟨g', 0, none⟩) zs.length 1 ∧ Sub σ τ ∧ τ g' = some ⟨ints .i64 zs, false⟩ := by
    intro hn
    by_cases hB2 : Both xs ys
    · have e : k = xs.length := by
        have : ¬ k < xs.length := fun hlt => hn hlt hB2
        omega
      subst e
      exact ⟨g, _, rfl, hg, by rw [if_pos hB2, thn_length], hs, by rw [if_pos hB2]; exact hgv⟩
    · have e : k = 0 := by
        have : ¬ 0 < k := fun h => hB2 (hB h)
        omega
      subst e
      exact ⟨g, _, rfl, hg, by rw [if_neg hB2]; rfl, hs, by rw [if_neg hB2]; exact hgv⟩
  by_cases hlt : k < xs.length
  · simp -implicitDefEqProofs (disch := omega) only [List.any_cons, List.any_nil, Nat.reduceEqDiff, List.map_cons, List.map_nil, Option.map_some, Option.map_none, List.nil_append, ↓reduceIte, vcu0, vcu1, vcu2, vcu3, vcu4, vcu5, vcu6, vcu7, vcu8, vcu9, vcu10, vcu11, vcu12, vcu13, vcu14, ↓vcd0, ↓vcd1, ↓vcd2, h0, h1, h5, h6]
    refine (specValid_at τ h o xs (hv.sub hs) hl).mono ?_
    rintro r τ1 ⟨rfl, rfl⟩
    by_cases hV : Valid xs
    · rw [decide_eq_true hV]
      simp -implicitDefEqProofs (disch := omega) only [List.any_cons, List.any_nil, Nat.reduceEqDiff, List.map_cons, List.map_nil, Option.map_some, Option.map_none, List.nil_append, ↓reduceIte, vcu0, vcu1, vcu2, vcu3, vcu4, vcu5, vcu6, vcu7, vcu8, vcu9, vcu10, vcu11, vcu12, vcu13, vcu14, ↓vcd0, ↓vcd1, ↓vcd2, opK_some, h0, h1, h5, h6]
      refine (specValid_at _ h' o' ys (hu.sub hs) hl2).mono ?_
      rintro r τ2 ⟨rfl, rfl⟩
      by_cases hU : Valid ys
      · rw [decide_eq_true hU]
        by_cases hle : xs.length = ys.length
        · have hB2 : Both xs ys := ⟨hle, hV, hU⟩
          have h66 := hV.2
          have hx := (hv.sub hs) k hlt
          have hr := hV.1.1 (xs.getD k 0) (by simp [List.getD, hlt])
          have hts := thn_succ xs ys k
          generalize xs.getD k 0 = x at hx hr hts
          have hy := (hu.sub hs) x.toNat (by omega)
          generalize ys.getD x.toNat 0 = y at hy hts
          simp -implicitDefEqProofs (disch := omega) only [List.any_cons, List.any_nil, Nat.reduceEqDiff, List.map_cons, List.map_nil, Option.map_some, Option.map_none, List.nil_append, ↓reduceIte, vcu0, vcu1, vcu2, vcu3, vcu4, vcu5, vcu6, vcu7, vcu8, vcu9, vcu10, vcu11, vcu12, vcu13, vcu14, ↓vcd0, ↓vcd1, ↓vcd2, opK_some, h0, h1, h5, h6, hx, hy]
          refine r_lit_at Try.underlying23 ze3 (out := #[.int .i64 y]) (by simp -implicitDefEqProofs (disch := omega) only [List.any_cons, List.any_nil, Nat.reduceEqDiff, List.map_cons, List.map_nil, Option.map_some, Option.map_none, List.nil_append, ↓reduceIte, vcu0, vcu1, vcu2, vcu3, vcu4, vcu5, vcu6, vcu7, vcu8, vcu9, vcu10, vcu11, vcu12, vcu13, vcu14, ↓vcd0, ↓vcd1, ↓vcd2]; kernel_rfl) (by kernel_rfl) fun g2 hg2 => ?_
          simp -implicitDefEqProofs (disch := omega) only [List.any_cons, List.any_nil, Nat.reduceEqDiff, List.map_cons, List.map_nil, Option.map_some, Option.map_none, List.nil_append, ↓reduceIte, vcu0, vcu1, vcu2, vcu3, vcu4, vcu5, vcu6, vcu7, vcu8, vcu9, vcu10, vcu11, vcu12, vcu13, vcu14, ↓vcd0, ↓vcd1, ↓vcd2, h5]
          refine r_append_at Try.underlying23 Try.underlying23 (i := Try.t3) (z := .int .i64 0) (ys := [.int .i64 y]) (h := g) (b := 0) (len := k) (ob := ⟨ints .i64 (thn xs ys k), false⟩) rfl rfl ?_ (by simp -implicitDefEqProofs (disch := omega) only [List.any_cons, List.any_nil, Nat.reduceEqDiff, List.map_cons, List.map_nil, Option.map_some, Option.map_none, List.nil_append, ↓reduceIte, vcu0, vcu1, vcu2, vcu3, vcu4, vcu5, vcu6, vcu7, vcu8, vcu9, vcu10, vcu11, vcu12, vcu13, vcu14, ↓vcd0, ↓vcd1, ↓vcd2, h5]; rfl) ?_ rfl ?_ rfl ?_ fun g3 hg3 => ?_
          · simp -implicitDefEqProofs (disch := omega) only [List.any_cons, List.any_nil, Nat.reduceEqDiff, List.map_cons, List.map_nil, Option.map_some, Option.map_none, List.nil_append, ↓reduceIte, vcu0, vcu1, vcu2, vcu3, vcu4, vcu5, vcu6, vcu7, vcu8, vcu9, vcu10, vcu11, vcu12, vcu13, vcu14, ↓vcd0, ↓vcd1, ↓vcd2, co3]
            exact acells_at (k := .i64) (o := 0) (xs := [y]) (intsAt_own (AHeap.upd_same _ _ _)) ⟨_, AHeap.upd_same _ _ _, by simp⟩
          · exact upd_other hgv hg2
          · show 0 + k * 1 ≤ (ints .i64 (thn xs ys k)).length
            rw [ints_length, thn_length]; omega
          · show (k * 1 + 1) * 8 ≤ _ ∧ k * 1 + 1 ≤ _
            omega
          have ea : appd (List.drop 0 (ints .i64 (thn xs ys k))) (k * Try.t3.size) [.int .i64 y] = ints .i64 (thn xs ys (k + 1)) := by
            have := appd_one (thn xs ys k) y
            rw [thn_length] at this
            rw [hts]; exact this
          rw [ea]
          have hs2 := sub_own2 (o := some ⟨[.int .i64 y], false⟩) hs (sub_free hs hg2)
          have hg3' := sub_free hs2 hg3
          simp -implicitDefEqProofs (disch := omega) only [List.any_cons, List.any_nil, Nat.reduceEqDiff, List.map_cons, List.map_nil, Option.map_some, Option.map_none, List.nil_append, ↓reduceIte, vcu0, vcu1, vcu2, vcu3, vcu4, vcu5, vcu6, vcu7, vcu8, vcu9, vcu10, vcu11, vcu12, vcu13, vcu14, ↓vcd0, ↓vcd1, ↓vcd2, h0, h1, h5, h6]
          exact ⟨m - 1, by omega, k + 1, g3, by omega, fun _ => hB2, trivial, trivial, by simp; exact ⟨rfl, rfl⟩, by simp, sub_own2 (sub_own2 hs2 hg) hg3', hg3', AHeap.upd_same _ _ _⟩
        · simp -implicitDefEqProofs (disch := omega) only [List.any_cons, List.any_nil, Nat.reduceEqDiff, List.map_cons, List.map_nil, Option.map_some, Option.map_none, List.nil_append, ↓reduceIte, vcu0, vcu1, vcu2, vcu3, vcu4, vcu5, vcu6, vcu7, vcu8, vcu9, vcu10, vcu11, vcu12, vcu13, vcu14, ↓vcd0, ↓vcd1, ↓vcd2, opK_some, h0, h1, h5, h6]
          refine fin_one Try.results30 ?_
          simp -implicitDefEqProofs (disch := omega) only [List.any_cons, List.any_nil, Nat.reduceEqDiff, List.map_cons, List.map_nil, Option.map_some, Option.map_none, List.nil_append, ↓reduceIte, vcu0, vcu1, vcu2, vcu3, vcu4, vcu5, vcu6, vcu7, vcu8, vcu9, vcu10, vcu11, vcu12, vcu13, vcu14, ↓vcd0, ↓vcd1, ↓vcd2]
          exact stop fun _ hB2 => hle hB2.1
      · rw [decide_eq_false hU]
        simp -implicitDefEqProofs (disch := omega) only [List.any_cons, List.any_nil, Nat.reduceEqDiff, List.map_cons, List.map_nil, Option.map_some, Option.map_none, List.nil_append, ↓reduceIte, vcu0, vcu1, vcu2, vcu3, vcu4, vcu5, vcu6, vcu7, vcu8, vcu9, vcu10, vcu11, vcu12, vcu13, vcu14, ↓vcd0, ↓vcd1, ↓vcd2, opK_some, h0, h1, h5, h6]
        refine fin_one Try.results30 ?_
        simp -implicitDefEqProofs (disch := omega) only [List.any_cons, List.any_nil, Nat.reduceEqDiff, List.map_cons, List.map_nil, Option.map_some, Option.map_none, List.nil_append, ↓reduceIte, vcu0, vcu1, vcu2, vcu3, vcu4, vcu5, vcu6, vcu7, vcu8, vcu9, vcu10, vcu11, vcu12, vcu13, vcu14, ↓vcd0, ↓vcd1, ↓vcd2]
        exact stop fun _ hB2 => hU hB2.2.2
    · rw [decide_eq_false hV]
      simp -implicitDefEqProofs (disch := omega) only [List.any_cons, List.any_nil, Nat.reduceEqDiff, List.map_cons, List.map_nil, Option.map_some, Option.map_none, List.nil_append, ↓reduceIte, vcu0, vcu1, vcu2, vcu3, vcu4, vcu5, vcu6, vcu7, vcu8, vcu9, vcu10, vcu11, vcu12, vcu13, vcu14, ↓vcd0, ↓vcd1, ↓vcd2, opK_some, h0, h1, h5, h6]
      refine fin_one Try.results30 ?_
      simp -implicitDefEqProofs (disch := omega) only [List.any_cons, List.any_nil, Nat.reduceEqDiff, List.map_cons, List.map_nil, Option.map_some, Option.map_none, List.nil_append, ↓reduceIte, vcu0, vcu1, vcu2, vcu3, vcu4, vcu5, vcu6, vcu7, vcu8, vcu9, vcu10, vcu11, vcu12, vcu13, vcu14, ↓vcd0, ↓vcd1, ↓vcd2]
      exact stop fun _ hB2 => hV hB2.2.1
  · simp -implicitDefEqProofs (disch := omega) only [List.any_cons, List.any_nil, Nat.reduceEqDiff, List.map_cons, List.map_nil, Option.map_some, Option.map_none, List.nil_append, ↓reduceIte, vcu0, vcu1, vcu2, vcu3, vcu4, vcu5, vcu6, vcu7, vcu8, vcu9, vcu10, vcu11, vcu12, vcu13, vcu14, ↓vcd0, ↓vcd1, ↓vcd2, h0, h1, h5, h6]
    refine fin_one Try.results30 ?_
    simp -implicitDefEqProofs (disch := omega) only [List.any_cons, List.any_nil, Nat.reduceEqDiff, List.map_cons, List.map_nil, Option.map_some, Option.map_none, List.nil_append, ↓reduceIte, vcu0, vcu1, vcu2, vcu3, vcu4, vcu5, vcu6, vcu7, vcu8, vcu9, vcu10, vcu11, vcu12, vcu13, vcu14, ↓vcd0, ↓vcd1, ↓vcd2]
    exact stop fun hh => absurd hh hlt

end Go.Proofs.Ytdgbaglhhhbbhaa

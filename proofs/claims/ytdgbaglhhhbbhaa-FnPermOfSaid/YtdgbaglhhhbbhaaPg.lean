/- PermCycles and PermSwaps of the program and of the reference. -/
import Derived.Test.YtdgbaglhhhbbhaaPe
set_option linter.unusedSimpArgs false
set_option linter.unusedVariables false
namespace Go.Proofs.Ytdgbaglhhhbbhaa
open Go Go.Abs Go.RowKit
variable {w0 : World}

theorem sub_upd2 {σ τ : AHeap} {g : Nat} {o : Option AObj} (hs : Sub σ τ) (hn : σ g = none) : Sub σ (τ.upd g o) := fun k ob hk => by
  by_cases e : k = g
  · subst e; rw [hn] at hk; cases hk
  · rw [AHeap.upd_ne _ _ e]; exact hs k ob hk
theorem sub_none {σ τ : AHeap} {g : Nat} (hs : Sub σ τ) (h : τ g = none) : σ g = none := by
  cases e : σ g with
  | none => rfl
  | some ob => have := hs g ob e; rw [h] at this; cases this

/-- what is reached, one by one, until it is met again -/
def walk (xs : List Int) : Nat → List Int → Int → List Int
  | 0, S, _ => S
  | f + 1, S, n => if n ∈ S then S else walk xs f (S ++ [n]) (xs.getD n.toNat 0)
def cyc (xs : List Int) : Nat → List Int × Nat
  | 0 => ([], 0)
  | k + 1 => if (k : Int) ∈ (cyc xs k).1 then cyc xs k else (walk xs 7 (cyc xs k).1 k, (cyc xs k).2 + 1)
theorem cyc_le (xs : List Int) : ∀ k, (cyc xs k).2 ≤ k
  | 0 => by simp [cyc]
  | k + 1 => by have := cyc_le xs k; rw [cyc]; split <;> simp <;> omega
def cycV (xs : List Int) : Int := if Valid xs then ((cyc xs xs.length).2 : Int) else -1
/-- how many of 0 to 5 are not there yet -/
def un (S : List Int) : Nat := (if (0 : Int) ∈ S then 0 else 1) + (if (1 : Int) ∈ S then 0 else 1) + (if (2 : Int) ∈ S then 0 else 1) + (if (3 : Int) ∈ S then 0 else 1) + (if (4 : Int) ∈ S then 0 else 1) + (if (5 : Int) ∈ S then 0 else 1)
theorem un_le (S : List Int) : un S ≤ 6 := by
  unfold un; repeat' split
  all_goals omega
theorem un_add {S : List Int} {n : Int} (h : n ∉ S) (h0 : 0 ≤ n) (h6 : n < 6) : un (S ++ [n]) + 1 = un S := by
  have : n = 0 ∨ n = 1 ∨ n = 2 ∨ n = 3 ∨ n = 4 ∨ n = 5 := by omega
  rcases this with rfl | rfl | rfl | rfl | rfl | rfl <;> simp [un, h] <;> omega
theorem valid_get {xs : List Int} (hV : Valid xs) {k : Nat} (h : k < xs.length) : 0 ≤ xs.getD k 0 ∧ xs.getD k 0 < xs.length :=
  hV.1.1 _ (by simp [List.getD, h])

theorem implCyc_at (σ : AHeap) (h o : Nat) (xs : List Int) (hv : IntsAt .i64 σ h o xs) (hl : xs.length ≤ 1048576) :
    ACall Try.prog w0 32 [.slice (some ⟨h, o, none⟩) xs.length 1] σ fun r σ' => r = .int .i64 (cycV xs) ∧ σ' = σ := by
  unfold cycV
  refine acall_go mixed Try.func32 rfl good32 ?_
  simp -implicitDefEqProofs (disch := omega) only [List.any_cons, List.any_nil, Nat.reduceEqDiff, List.map_cons, List.map_nil, Option.map_some, Option.map_none, List.nil_append, ↓reduceIte, vcu0, vcu1, vcu2, vcu3, vcu4, vcu5, vcu6, vcu7, vcu8, vcu9, vcu10, vcu11, vcu12, vcu13, vcu14, ↓vcd0, ↓vcd1, ↓vcd2]
  refine (implValid_at σ h o xs hv hl).mono ?_
  rintro r σ' ⟨rfl, rfl⟩
  by_cases hV : Valid xs
  · have h6 := hV.2
    rw [decide_eq_true hV, if_pos hV]
    simp -implicitDefEqProofs (disch := omega) only [List.any_cons, List.any_nil, Nat.reduceEqDiff, List.map_cons, List.map_nil, Option.map_some, Option.map_none, List.nil_append, ↓reduceIte, vcu0, vcu1, vcu2, vcu3, vcu4, vcu5, vcu6, vcu7, vcu8, vcu9, vcu10, vcu11, vcu12, vcu13, vcu14, ↓vcd0, ↓vcd1, ↓vcd2, opK_some]
    refine r_alloc_at ze45 fun g hg => ?_
    simp -implicitDefEqProofs (disch := omega) only [List.any_cons, List.any_nil, Nat.reduceEqDiff, List.map_cons, List.map_nil, Option.map_some, Option.map_none, List.nil_append, ↓reduceIte, vcu0, vcu1, vcu2, vcu3, vcu4, vcu5, vcu6, vcu7, vcu8, vcu9, vcu10, vcu11, vcu12, vcu13, vcu14, ↓vcd0, ↓vcd1, ↓vcd2]
    refine vc_loop mixed (by kernel_rfl) (fun m a σ1 => ∃ i : Nat, m + i = xs.length ∧ a 0 = .slice (some ⟨h, o, none⟩) xs.length 1 ∧ a 3 = .pointer (some ⟨g, 0, none⟩) ∧ a 4 = .int .i64 ((cyc xs i).2) ∧ a 11 = .int .i64 xs.length ∧ a 12 = .int .i64 i ∧
      σ1 = σ'.upd g (some ⟨seenB (cyc xs i).1, false⟩)) xs.length ⟨0, by simp, rfl, rfl, rfl, rfl, rfl, rfl⟩ ?_
    rintro m a σ1 ⟨i, hi, h0, h3, h4, h11, h12, rfl⟩
    by_cases hlt : i < xs.length
    · have hcl := cyc_le xs i
      have hs : ld (σ'.upd g (some ⟨seenB (cyc xs i).1, false⟩)) g (0 + i) = some (.bool (decide ((i : Int) ∈ (cyc xs i).1))) := by
        rw [ld_upd_same]; dsimp only; rw [Nat.zero_add, seenB_get _ (by omega)]
      by_cases hm : (i : Int) ∈ (cyc xs i).1
      · rw [decide_eq_true hm] at hs
        simp -implicitDefEqProofs (disch := omega) only [List.any_cons, List.any_nil, Nat.reduceEqDiff, List.map_cons, List.map_nil, Option.map_some, Option.map_none, List.nil_append, ↓reduceIte, vcu0, vcu1, vcu2, vcu3, vcu4, vcu5, vcu6, vcu7, vcu8, vcu9, vcu10, vcu11, vcu12, vcu13, vcu14, ↓vcd0, ↓vcd1, ↓vcd2, h0, h3, h4, h11, h12, hs]
        have e : cyc xs (i + 1) = cyc xs i := by rw [cyc, if_pos hm]
        exact ⟨m - 1, by omega, i + 1, by omega, trivial, trivial, by rw [e], trivial, by simp, by rw [e]⟩
      · rw [decide_eq_false hm] at hs
        simp -implicitDefEqProofs (disch := omega) only [List.any_cons, List.any_nil, Nat.reduceEqDiff, List.map_cons, List.map_nil, Option.map_some, Option.map_none, List.nil_append, ↓reduceIte, vcu0, vcu1, vcu2, vcu3, vcu4, vcu5, vcu6, vcu7, vcu8, vcu9, vcu10, vcu11, vcu12, vcu13, vcu14, ↓vcd0, ↓vcd1, ↓vcd2, h0, h3, h4, h11, h12, hs]
        have e : cyc xs (i + 1) = (walk xs 7 (cyc xs i).1 i, (cyc xs i).2 + 1) := by rw [cyc, if_neg hm]
        refine vc_loop mixed (by kernel_rfl) (fun m2 a σ2 => ∃ (f : Nat) (S : List Int) (n : Int), m2 = un S ∧ un S < f ∧ 0 ≤ n ∧ n < xs.length ∧ walk xs f S n = walk xs 7 (cyc xs i).1 i ∧ a 0 = .slice (some ⟨h, o, none⟩) xs.length 1 ∧ a 3 = .pointer (some ⟨g, 0, none⟩) ∧
          a 4 = .int .i64 ((cyc xs i).2 + 1 : Nat) ∧ a 6 = .int .i64 n ∧ a 11 = .int .i64 xs.length ∧ a 12 = .int .i64 i ∧ σ2 = σ'.upd g (some ⟨seenB S, false⟩)) _ ⟨7, (cyc xs i).1, i, rfl, by have := un_le (cyc xs i).1; omega, by omega, by omega, rfl, by simp [fset, h0], by simp [fset, h3], by simp [fset], by simp [fset], by simp [fset, h11], by simp [fset, h12], rfl⟩ ?_
        rintro m2 a2 σ2 ⟨f, S, n, rfl, hf, hn0, hn1, hW, g0, g3, g4, g6, g11, g12, rfl⟩
        obtain ⟨f, rfl⟩ : ∃ f', f = f' + 1 := ⟨f - 1, by omega⟩
        have hs2 : ld (σ'.upd g (some ⟨seenB S, false⟩)) g (0 + n.toNat) = some (.bool (decide (n ∈ S))) := by
          rw [ld_upd_same]; dsimp only; rw [Nat.zero_add, seenB_get _ (by omega)]
          have : ((n.toNat : Nat) : Int) = n := by omega
          rw [this]
        rw [walk] at hW
        by_cases hm2 : n ∈ S
        · rw [decide_eq_true hm2] at hs2
          rw [if_pos hm2] at hW
          simp -implicitDefEqProofs (disch := omega) only [List.any_cons, List.any_nil, Nat.reduceEqDiff, List.map_cons, List.map_nil, Option.map_some, Option.map_none, List.nil_append, ↓reduceIte, vcu0, vcu1, vcu2, vcu3, vcu4, vcu5, vcu6, vcu7, vcu8, vcu9, vcu10, vcu11, vcu12, vcu13, vcu14, ↓vcd0, ↓vcd1, ↓vcd2, g0, g3, g4, g6, g11, g12, hs2]
          exact ⟨m - 1, by omega, i + 1, by omega, trivial, trivial, by rw [e], trivial, by simp, by rw [e, hW]⟩
        · rw [decide_eq_false hm2] at hs2
          rw [if_neg hm2] at hW
          simp -implicitDefEqProofs (disch := omega) only [List.any_cons, List.any_nil, Nat.reduceEqDiff, List.map_cons, List.map_nil, Option.map_some, Option.map_none, List.nil_append, ↓reduceIte, vcu0, vcu1, vcu2, vcu3, vcu4, vcu5, vcu6, vcu7, vcu8, vcu9, vcu10, vcu11, vcu12, vcu13, vcu14, ↓vcd0, ↓vcd1, ↓vcd2, g0, g3, g4, g6, g11, g12, hs2]
          have hst := sts_one (σ := σ'.upd g (some ⟨seenB S, false⟩)) (h := g) (cs := seenB S) (i := 0 + n.toNat) (v := .bool true) (AHeap.upd_same _ _ _) (by rw [seenB_length]; omega)
          refine r_store_at (h := g) (i := 0 + n.toNat) (by simp -implicitDefEqProofs (disch := omega) only [List.any_cons, List.any_nil, Nat.reduceEqDiff, List.map_cons, List.map_nil, Option.map_some, Option.map_none, List.nil_append, ↓reduceIte, vcu0, vcu1, vcu2, vcu3, vcu4, vcu5, vcu6, vcu7, vcu8, vcu9, vcu10, vcu11, vcu12, vcu13, vcu14, ↓vcd0, ↓vcd1, ↓vcd2, g3]) (by rfl) (by rfl) hst ?_
          rw [Nat.zero_add, seenB_set _ hn0 (by omega), AHeap.upd_upd]
          have hx := (hv.sub (sub_upd (o := some ⟨seenB (S ++ [n]), false⟩) hg)) n.toNat (by omega)
          have hr := valid_get hV (k := n.toNat) (by omega)
          have hu := un_add hm2 hn0 (by omega)
          simp -implicitDefEqProofs (disch := omega) only [List.any_cons, List.any_nil, Nat.reduceEqDiff, List.map_cons, List.map_nil, Option.map_some, Option.map_none, List.nil_append, ↓reduceIte, vcu0, vcu1, vcu2, vcu3, vcu4, vcu5, vcu6, vcu7, vcu8, vcu9, vcu10, vcu11, vcu12, vcu13, vcu14, ↓vcd0, ↓vcd1, ↓vcd2, g0, g3, g4, g6, g11, g12, hx]
          exact ⟨un (S ++ [n]), by omega, f, S ++ [n], _, rfl, by omega, hr.1, hr.2, hW, trivial, trivial, trivial, rfl, trivial, trivial, rfl⟩
    · simp -implicitDefEqProofs (disch := omega) only [List.any_cons, List.any_nil, Nat.reduceEqDiff, List.map_cons, List.map_nil, Option.map_some, Option.map_none, List.nil_append, ↓reduceIte, vcu0, vcu1, vcu2, vcu3, vcu4, vcu5, vcu6, vcu7, vcu8, vcu9, vcu10, vcu11, vcu12, vcu13, vcu14, ↓vcd0, ↓vcd1, ↓vcd2, h0, h3, h4, h11, h12]
      refine fin_drop Try.results32 σ' (sub_upd hg) ⟨?_, rfl⟩
      simp -implicitDefEqProofs (disch := omega) only [List.any_cons, List.any_nil, Nat.reduceEqDiff, List.map_cons, List.map_nil, Option.map_some, Option.map_none, List.nil_append, ↓reduceIte, vcu0, vcu1, vcu2, vcu3, vcu4, vcu5, vcu6, vcu7, vcu8, vcu9, vcu10, vcu11, vcu12, vcu13, vcu14, ↓vcd0, ↓vcd1, ↓vcd2, h4]
      have e : i = xs.length := by omega
      rw [e]
  · rw [decide_eq_false hV, if_neg hV]
    simp -implicitDefEqProofs (disch := omega) only [List.any_cons, List.any_nil, Nat.reduceEqDiff, List.map_cons, List.map_nil, Option.map_some, Option.map_none, List.nil_append, ↓reduceIte, vcu0, vcu1, vcu2, vcu3, vcu4, vcu5, vcu6, vcu7, vcu8, vcu9, vcu10, vcu11, vcu12, vcu13, vcu14, ↓vcd0, ↓vcd1, ↓vcd2, opK_some]
    refine fin_one Try.results32 ⟨?_, rfl⟩
    simp -implicitDefEqProofs (disch := omega) only [List.any_cons, List.any_nil, Nat.reduceEqDiff, List.map_cons, List.map_nil, Option.map_some, Option.map_none, List.nil_append, ↓reduceIte, vcu0, vcu1, vcu2, vcu3, vcu4, vcu5, vcu6, vcu7, vcu8, vcu9, vcu10, vcu11, vcu12, vcu13, vcu14, ↓vcd0, ↓vcd1, ↓vcd2]

theorem appd_ints (S : List Int) (n : Int) : appd ((ints .i64 S).drop 0) (S.length * 1) [.int .i64 n] = ints .i64 (S ++ [n]) := by
  unfold appd
  rw [if_neg (by simp [ints_length]), List.drop_zero, Nat.mul_one, List.take_of_length_le (by simp [ints_length])]
  simp [ints]

theorem specCyc_at (σ : AHeap) (h o : Nat) (xs : List Int) (hv : IntsAt .i64 σ h o xs) (hl : xs.length ≤ 1048576) :
    ACall Try.prog w0 33 [.slice (some ⟨h, o, none⟩) xs.length 1] σ fun r σ' => r = .int .i64 (cycV xs) ∧ σ' = σ := by
  unfold cycV
  refine acall_go mixed Try.func33 rfl good33 ?_
  simp -implicitDefEqProofs (disch := omega) only [List.any_cons, List.any_nil, Nat.reduceEqDiff, List.map_cons, List.map_nil, Option.map_some, Option.map_none, List.nil_append, ↓reduceIte, vcu0, vcu1, vcu2, vcu3, vcu4, vcu5, vcu6, vcu7, vcu8, vcu9, vcu10, vcu11, vcu12, vcu13, vcu14, ↓vcd0, ↓vcd1, ↓vcd2]
  refine (specValid_at σ h o xs hv hl).mono ?_
  rintro r σ' ⟨rfl, rfl⟩
  by_cases hV : Valid xs
  · have h6 := hV.2
    rw [decide_eq_true hV, if_pos hV]
    simp -implicitDefEqProofs (disch := omega) only [List.any_cons, List.any_nil, Nat.reduceEqDiff, List.map_cons, List.map_nil, Option.map_some, Option.map_none, List.nil_append, ↓reduceIte, vcu0, vcu1, vcu2, vcu3, vcu4, vcu5, vcu6, vcu7, vcu8, vcu9, vcu10, vcu11, vcu12, vcu13, vcu14, ↓vcd0, ↓vcd1, ↓vcd2, opK_some]
    refine r_lit_at Try.underlying23 ze3 (out := #[]) (by kernel_rfl) (by kernel_rfl) fun g hg => ?_
    simp -implicitDefEqProofs (disch := omega) only [List.any_cons, List.any_nil, Nat.reduceEqDiff, List.map_cons, List.map_nil, Option.map_some, Option.map_none, List.nil_append, ↓reduceIte, vcu0, vcu1, vcu2, vcu3, vcu4, vcu5, vcu6, vcu7, vcu8, vcu9, vcu10, vcu11, vcu12, vcu13, vcu14, ↓vcd0, ↓vcd1, ↓vcd2]
    refine vc_loop mixed (by kernel_rfl) (fun m a σ1 => ∃ (i g : Nat), m + i = xs.length ∧ a 0 = .slice (some ⟨h, o, none⟩) xs.length 1 ∧ a 3 = .int .i64 ((cyc xs i).2) ∧ a 4 = .slice (some ⟨g, 0, none⟩) (cyc xs i).1.length 1 ∧ a 5 = .int .i64 i ∧
      (cyc xs i).1.length + un (cyc xs i).1 = 6 ∧ Sub σ' σ1 ∧ σ' g = none ∧ σ1 g = some ⟨ints .i64 (cyc xs i).1, false⟩) xs.length ⟨0, g, by simp, rfl, rfl, rfl, rfl, rfl, sub_upd hg, hg, AHeap.upd_same _ _ _⟩ ?_
    clear hg g
    rintro m a σ1 ⟨i, g, hi, h0, h3, h4, h5, hu0, hs1, hg, hgv⟩
    by_cases hlt : i < xs.length
    · have hcl := cyc_le xs i
      simp -implicitDefEqProofs (disch := omega) only [List.any_cons, List.any_nil, Nat.reduceEqDiff, List.map_cons, List.map_nil, Option.map_some, Option.map_none, List.nil_append, ↓reduceIte, vcu0, vcu1, vcu2, vcu3, vcu4, vcu5, vcu6, vcu7, vcu8, vcu9, vcu10, vcu11, vcu12, vcu13, vcu14, ↓vcd0, ↓vcd1, ↓vcd2, h0, h3, h4, h5]
      refine (has_at σ1 g 0 (cyc xs i).1 i (intsAt_own hgv) (by omega)).mono ?_
      rintro r σ2 ⟨rfl, rfl⟩
      by_cases hm : (i : Int) ∈ (cyc xs i).1
      · rw [decide_eq_true hm]
        simp -implicitDefEqProofs (disch := omega) only [List.any_cons, List.any_nil, Nat.reduceEqDiff, List.map_cons, List.map_nil, Option.map_some, Option.map_none, List.nil_append, ↓reduceIte, vcu0, vcu1, vcu2, vcu3, vcu4, vcu5, vcu6, vcu7, vcu8, vcu9, vcu10, vcu11, vcu12, vcu13, vcu14, ↓vcd0, ↓vcd1, ↓vcd2, opK_some, h0, h3, h4, h5]
        have e : cyc xs (i + 1) = cyc xs i := by rw [cyc, if_pos hm]
        exact ⟨m - 1, by omega, i + 1, g, by omega, trivial, by rw [e], by rw [e], by simp, by rw [e]; exact hu0, hs1, hg, by rw [e]; exact hgv⟩
      · rw [decide_eq_false hm]
        simp -implicitDefEqProofs (disch := omega) only [List.any_cons, List.any_nil, Nat.reduceEqDiff, List.map_cons, List.map_nil, Option.map_some, Option.map_none, List.nil_append, ↓reduceIte, vcu0, vcu1, vcu2, vcu3, vcu4, vcu5, vcu6, vcu7, vcu8, vcu9, vcu10, vcu11, vcu12, vcu13, vcu14, ↓vcd0, ↓vcd1, ↓vcd2, opK_some, h0, h3, h4, h5]
        have e : cyc xs (i + 1) = (walk xs 7 (cyc xs i).1 i, (cyc xs i).2 + 1) := by rw [cyc, if_neg hm]
        refine vc_loop mixed (by kernel_rfl) (fun m2 a σ3 => ∃ (f g : Nat) (S : List Int) (n : Int), m2 = un S ∧ un S < f ∧ 0 ≤ n ∧ n < xs.length ∧ walk xs f S n = walk xs 7 (cyc xs i).1 i ∧ a 0 = .slice (some ⟨h, o, none⟩) xs.length 1 ∧ a 3 = .int .i64 ((cyc xs i).2 + 1 : Nat) ∧
          a 4 = .slice (some ⟨g, 0, none⟩) S.length 1 ∧ a 5 = .int .i64 i ∧ a 6 = .int .i64 n ∧ S.length + un S = 6 ∧ Sub σ' σ3 ∧ σ' g = none ∧ σ3 g = some ⟨ints .i64 S, false⟩) _
          ⟨7, g, (cyc xs i).1, i, rfl, by have := un_le (cyc xs i).1; omega, by omega, by omega, rfl, by simp [fset, h0], by simp [fset], by simp [fset, h4], by simp [fset, h5], by simp [fset], hu0, hs1, hg, hgv⟩ ?_
        clear hs1 hg hgv h0 h3 h4 h5
        rintro m2 a2 σ3 ⟨f, g, S, n, rfl, hf, hn0, hn1, hW, g0, k3, g4, g5, g6, hus, hs1, hg, hgv⟩
        obtain ⟨f, rfl⟩ : ∃ f', f = f' + 1 := ⟨f - 1, by omega⟩
        rw [walk] at hW
        simp -implicitDefEqProofs (disch := omega) only [List.any_cons, List.any_nil, Nat.reduceEqDiff, List.map_cons, List.map_nil, Option.map_some, Option.map_none, List.nil_append, ↓reduceIte, vcu0, vcu1, vcu2, vcu3, vcu4, vcu5, vcu6, vcu7, vcu8, vcu9, vcu10, vcu11, vcu12, vcu13, vcu14, ↓vcd0, ↓vcd1, ↓vcd2, g0, k3, g4, g5, g6]
        refine (has_at σ3 g 0 S n (intsAt_own hgv) (by omega)).mono ?_
        rintro r σ4 ⟨rfl, rfl⟩
        by_cases hm2 : n ∈ S
        · rw [decide_eq_true hm2]
          rw [if_pos hm2] at hW
          simp -implicitDefEqProofs (disch := omega) only [List.any_cons, List.any_nil, Nat.reduceEqDiff, List.map_cons, List.map_nil, Option.map_some, Option.map_none, List.nil_append, ↓reduceIte, vcu0, vcu1, vcu2, vcu3, vcu4, vcu5, vcu6, vcu7, vcu8, vcu9, vcu10, vcu11, vcu12, vcu13, vcu14, ↓vcd0, ↓vcd1, ↓vcd2, opK_some, g0, k3, g4, g5, g6]
          exact ⟨m - 1, by omega, i + 1, g, by omega, trivial, by rw [e], by rw [e, ← hW], by simp, by rw [e, ← hW]; exact hus, hs1, hg, by rw [e, ← hW]; exact hgv⟩
        · rw [decide_eq_false hm2]
          rw [if_neg hm2] at hW
          simp -implicitDefEqProofs (disch := omega) only [List.any_cons, List.any_nil, Nat.reduceEqDiff, List.map_cons, List.map_nil, Option.map_some, Option.map_none, List.nil_append, ↓reduceIte, vcu0, vcu1, vcu2, vcu3, vcu4, vcu5, vcu6, vcu7, vcu8, vcu9, vcu10, vcu11, vcu12, vcu13, vcu14, ↓vcd0, ↓vcd1, ↓vcd2, opK_some, g0, k3, g4, g5, g6]
          refine r_lit_at Try.underlying23 ze3 (out := #[.int .i64 n]) (by simp -implicitDefEqProofs (disch := omega) only [List.any_cons, List.any_nil, Nat.reduceEqDiff, List.map_cons, List.map_nil, Option.map_some, Option.map_none, List.nil_append, ↓reduceIte, vcu0, vcu1, vcu2, vcu3, vcu4, vcu5, vcu6, vcu7, vcu8, vcu9, vcu10, vcu11, vcu12, vcu13, vcu14, ↓vcd0, ↓vcd1, ↓vcd2, g6]; kernel_rfl) (by kernel_rfl) fun g2 hg2 => ?_
          simp -implicitDefEqProofs (disch := omega) only [List.any_cons, List.any_nil, Nat.reduceEqDiff, List.map_cons, List.map_nil, Option.map_some, Option.map_none, List.nil_append, ↓reduceIte, vcu0, vcu1, vcu2, vcu3, vcu4, vcu5, vcu6, vcu7, vcu8, vcu9, vcu10, vcu11, vcu12, vcu13, vcu14, ↓vcd0, ↓vcd1, ↓vcd2, g4, g6]
          refine r_append_at Try.underlying23 Try.underlying23 (i := Try.t3) (z := .int .i64 0) (ys := [.int .i64 n]) (h := g) (b := 0) (len := S.length) (ob := ⟨ints .i64 S, false⟩) rfl rfl ?_ (by simp -implicitDefEqProofs (disch := omega) only [List.any_cons, List.any_nil, Nat.reduceEqDiff, List.map_cons, List.map_nil, Option.map_some, Option.map_none, List.nil_append, ↓reduceIte, vcu0, vcu1, vcu2, vcu3, vcu4, vcu5, vcu6, vcu7, vcu8, vcu9, vcu10, vcu11, vcu12, vcu13, vcu14, ↓vcd0, ↓vcd1, ↓vcd2, g4]; rfl) ?_ rfl ?_ rfl ?_ fun g3 hg3 => ?_
          · simp -implicitDefEqProofs (disch := omega) only [List.any_cons, List.any_nil, Nat.reduceEqDiff, List.map_cons, List.map_nil, Option.map_some, Option.map_none, List.nil_append, ↓reduceIte, vcu0, vcu1, vcu2, vcu3, vcu4, vcu5, vcu6, vcu7, vcu8, vcu9, vcu10, vcu11, vcu12, vcu13, vcu14, ↓vcd0, ↓vcd1, ↓vcd2, co3]
            exact acells_at (k := .i64) (o := 0) (xs := [n]) (intsAt_own (AHeap.upd_same _ _ _)) ⟨_, AHeap.upd_same _ _ _, by simp⟩
          · rw [AHeap.upd_ne _ _ (by rintro rfl; rw [hgv] at hg2; cases hg2)]; exact hgv
          · show 0 + S.length * 1 ≤ (ints .i64 S).length
            rw [ints_length]; omega
          · show (S.length * 1 + 1) * 8 ≤ _ ∧ S.length * 1 + 1 ≤ _
            omega
          have ea : appd (List.drop 0 (ints .i64 S)) (S.length * Try.t3.size) [.int .i64 n] = ints .i64 (S ++ [n]) := appd_ints S n
          rw [ea]
          have hs2 : Sub σ' (σ4.upd g2 (some ⟨[.int .i64 n], false⟩)) := sub_upd2 hs1 (sub_none hs1 hg2)
          have hs3 : Sub σ' (((σ4.upd g2 (some ⟨[.int .i64 n], false⟩)).upd g none).upd g3 (some ⟨ints .i64 (S ++ [n]), false⟩)) := sub_upd2 (sub_upd2 hs2 hg) (sub_none hs2 hg3)
          have hx := (hv.sub hs3) n.toNat (by omega)
          have hr := valid_get hV (k := n.toNat) (by omega)
          have hu := un_add hm2 hn0 (by omega)
          simp -implicitDefEqProofs (disch := omega) only [List.any_cons, List.any_nil, Nat.reduceEqDiff, List.map_cons, List.map_nil, Option.map_some, Option.map_none, List.nil_append, ↓reduceIte, vcu0, vcu1, vcu2, vcu3, vcu4, vcu5, vcu6, vcu7, vcu8, vcu9, vcu10, vcu11, vcu12, vcu13, vcu14, ↓vcd0, ↓vcd1, ↓vcd2, g0, k3, g4, g5, g6, hx]
          exact ⟨un (S ++ [n]), by omega, f, _, S ++ [n], _, rfl, by omega, hr.1, hr.2, hW, trivial, trivial, by simp; exact ⟨rfl, rfl⟩, trivial, rfl, by simp; omega, hs3, sub_none hs2 hg3, AHeap.upd_same _ _ _⟩
    · simp -implicitDefEqProofs (disch := omega) only [List.any_cons, List.any_nil, Nat.reduceEqDiff, List.map_cons, List.map_nil, Option.map_some, Option.map_none, List.nil_append, ↓reduceIte, vcu0, vcu1, vcu2, vcu3, vcu4, vcu5, vcu6, vcu7, vcu8, vcu9, vcu10, vcu11, vcu12, vcu13, vcu14, ↓vcd0, ↓vcd1, ↓vcd2, h0, h3, h4, h5]
      refine fin_drop Try.results33 σ' hs1 ⟨?_, rfl⟩
      simp -implicitDefEqProofs (disch := omega) only [List.any_cons, List.any_nil, Nat.reduceEqDiff, List.map_cons, List.map_nil, Option.map_some, Option.map_none, List.nil_append, ↓reduceIte, vcu0, vcu1, vcu2, vcu3, vcu4, vcu5, vcu6, vcu7, vcu8, vcu9, vcu10, vcu11, vcu12, vcu13, vcu14, ↓vcd0, ↓vcd1, ↓vcd2, h3]
      have e : i = xs.length := by omega
      rw [e]
  · rw [decide_eq_false hV, if_neg hV]
    simp -implicitDefEqProofs (disch := omega) only [List.any_cons, List.any_nil, Nat.reduceEqDiff, List.map_cons, List.map_nil, Option.map_some, Option.map_none, List.nil_append, ↓reduceIte, vcu0, vcu1, vcu2, vcu3, vcu4, vcu5, vcu6, vcu7, vcu8, vcu9, vcu10, vcu11, vcu12, vcu13, vcu14, ↓vcd0, ↓vcd1, ↓vcd2, opK_some]
    refine fin_one Try.results33 ⟨?_, rfl⟩
    simp -implicitDefEqProofs (disch := omega) only [List.any_cons, List.any_nil, Nat.reduceEqDiff, List.map_cons, List.map_nil, Option.map_some, Option.map_none, List.nil_append, ↓reduceIte, vcu0, vcu1, vcu2, vcu3, vcu4, vcu5, vcu6, vcu7, vcu8, vcu9, vcu10, vcu11, vcu12, vcu13, vcu14, ↓vcd0, ↓vcd1, ↓vcd2]

theorem specCyc_calls (σ : AHeap) (v : Value) (xs : List Int) (hv : Ints .i64 σ v xs) (hl : xs.length ≤ 1048576) :
    ACall Try.prog w0 33 [v] σ fun r σ' => r = .int .i64 (cycV xs) ∧ σ' = σ :=
  ACall.ints_quiet (pre := []) (by kernel_rfl) hv fun σ1 g o _ hg => specCyc_at σ1 g o xs hg hl
theorem implCyc_calls (σ : AHeap) (v : Value) (xs : List Int) (hv : Ints .i64 σ v xs) (hl : xs.length ≤ 1048576) :
    ACall Try.prog w0 32 [v] σ fun r σ' => r = .int .i64 (cycV xs) ∧ σ' = σ :=
  ACall.ints_quiet (pre := []) (by kernel_rfl) hv fun σ1 g o _ hg => implCyc_at σ1 g o xs hg hl

def swapV (xs : List Int) : Int := if Valid xs then xs.length - cycV xs else -1
theorem cycV_le {xs : List Int} (hV : Valid xs) : 0 ≤ cycV xs ∧ cycV xs ≤ 6 := by
  unfold cycV; rw [if_pos hV]; have := cyc_le xs xs.length; have := hV.2; omega

theorem specSwap_at (σ : AHeap) (h o : Nat) (xs : List Int) (hv : IntsAt .i64 σ h o xs) (hl : xs.length ≤ 1048576) :
    ACall Try.prog w0 36 [.slice (some ⟨h, o, none⟩) xs.length 1] σ fun r σ' => r = .int .i64 (swapV xs) ∧ σ' = σ := by
  unfold swapV
  refine acall_go mixed Try.func36 rfl good36 ?_
  simp -implicitDefEqProofs (disch := omega) only [List.any_cons, List.any_nil, Nat.reduceEqDiff, List.map_cons, List.map_nil, Option.map_some, Option.map_none, List.nil_append, ↓reduceIte, vcu0, vcu1, vcu2, vcu3, vcu4, vcu5, vcu6, vcu7, vcu8, vcu9, vcu10, vcu11, vcu12, vcu13, vcu14, ↓vcd0, ↓vcd1, ↓vcd2]
  refine (specValid_at σ h o xs hv hl).mono ?_
  rintro r σ' ⟨rfl, rfl⟩
  by_cases hV : Valid xs
  · have hc := cycV_le hV
    rw [decide_eq_true hV, if_pos hV]
    simp -implicitDefEqProofs (disch := omega) only [List.any_cons, List.any_nil, Nat.reduceEqDiff, List.map_cons, List.map_nil, Option.map_some, Option.map_none, List.nil_append, ↓reduceIte, vcu0, vcu1, vcu2, vcu3, vcu4, vcu5, vcu6, vcu7, vcu8, vcu9, vcu10, vcu11, vcu12, vcu13, vcu14, ↓vcd0, ↓vcd1, ↓vcd2, opK_some]
    refine (specCyc_at σ' h o xs hv hl).mono ?_
    rintro r σ1 ⟨rfl, rfl⟩
    simp -implicitDefEqProofs (disch := omega) only [List.any_cons, List.any_nil, Nat.reduceEqDiff, List.map_cons, List.map_nil, Option.map_some, Option.map_none, List.nil_append, ↓reduceIte, vcu0, vcu1, vcu2, vcu3, vcu4, vcu5, vcu6, vcu7, vcu8, vcu9, vcu10, vcu11, vcu12, vcu13, vcu14, ↓vcd0, ↓vcd1, ↓vcd2, opK_some]
    refine fin_one Try.results36 ⟨?_, rfl⟩
    simp -implicitDefEqProofs (disch := omega) only [List.any_cons, List.any_nil, Nat.reduceEqDiff, List.map_cons, List.map_nil, Option.map_some, Option.map_none, List.nil_append, ↓reduceIte, vcu0, vcu1, vcu2, vcu3, vcu4, vcu5, vcu6, vcu7, vcu8, vcu9, vcu10, vcu11, vcu12, vcu13, vcu14, ↓vcd0, ↓vcd1, ↓vcd2]
  · rw [decide_eq_false hV, if_neg hV]
    simp -implicitDefEqProofs (disch := omega) only [List.any_cons, List.any_nil, Nat.reduceEqDiff, List.map_cons, List.map_nil, Option.map_some, Option.map_none, List.nil_append, ↓reduceIte, vcu0, vcu1, vcu2, vcu3, vcu4, vcu5, vcu6, vcu7, vcu8, vcu9, vcu10, vcu11, vcu12, vcu13, vcu14, ↓vcd0, ↓vcd1, ↓vcd2, opK_some]
    refine fin_one Try.results36 ⟨?_, rfl⟩
    simp -implicitDefEqProofs (disch := omega) only [List.any_cons, List.any_nil, Nat.reduceEqDiff, List.map_cons, List.map_nil, Option.map_some, Option.map_none, List.nil_append, ↓reduceIte, vcu0, vcu1, vcu2, vcu3, vcu4, vcu5, vcu6, vcu7, vcu8, vcu9, vcu10, vcu11, vcu12, vcu13, vcu14, ↓vcd0, ↓vcd1, ↓vcd2]

theorem implSwap_at (σ : AHeap) (h o : Nat) (xs : List Int) (hv : IntsAt .i64 σ h o xs) (hl : xs.length ≤ 1048576) :
    ACall Try.prog w0 35 [.slice (some ⟨h, o, none⟩) xs.length 1] σ fun r σ' => r = .int .i64 (swapV xs) ∧ σ' = σ := by
  unfold swapV
  refine acall_go mixed Try.func35 rfl good35 ?_
  simp -implicitDefEqProofs (disch := omega) only [List.any_cons, List.any_nil, Nat.reduceEqDiff, List.map_cons, List.map_nil, Option.map_some, Option.map_none, List.nil_append, ↓reduceIte, vcu0, vcu1, vcu2, vcu3, vcu4, vcu5, vcu6, vcu7, vcu8, vcu9, vcu10, vcu11, vcu12, vcu13, vcu14, ↓vcd0, ↓vcd1, ↓vcd2]
  refine (implValid_at σ h o xs hv hl).mono ?_
  rintro r σ' ⟨rfl, rfl⟩
  by_cases hV : Valid xs
  · have hc := cycV_le hV
    rw [decide_eq_true hV, if_pos hV]
    simp -implicitDefEqProofs (disch := omega) only [List.any_cons, List.any_nil, Nat.reduceEqDiff, List.map_cons, List.map_nil, Option.map_some, Option.map_none, List.nil_append, ↓reduceIte, vcu0, vcu1, vcu2, vcu3, vcu4, vcu5, vcu6, vcu7, vcu8, vcu9, vcu10, vcu11, vcu12, vcu13, vcu14, ↓vcd0, ↓vcd1, ↓vcd2, opK_some]
    refine (implCyc_at σ' h o xs hv hl).mono ?_
    rintro r σ1 ⟨rfl, rfl⟩
    simp -implicitDefEqProofs (disch := omega) only [List.any_cons, List.any_nil, Nat.reduceEqDiff, List.map_cons, List.map_nil, Option.map_some, Option.map_none, List.nil_append, ↓reduceIte, vcu0, vcu1, vcu2, vcu3, vcu4, vcu5, vcu6, vcu7, vcu8, vcu9, vcu10, vcu11, vcu12, vcu13, vcu14, ↓vcd0, ↓vcd1, ↓vcd2, opK_some]
    refine fin_one Try.results35 ⟨?_, rfl⟩
    simp -implicitDefEqProofs (disch := omega) only [List.any_cons, List.any_nil, Nat.reduceEqDiff, List.map_cons, List.map_nil, Option.map_some, Option.map_none, List.nil_append, ↓reduceIte, vcu0, vcu1, vcu2, vcu3, vcu4, vcu5, vcu6, vcu7, vcu8, vcu9, vcu10, vcu11, vcu12, vcu13, vcu14, ↓vcd0, ↓vcd1, ↓vcd2]
  · rw [decide_eq_false hV, if_neg hV]
    simp -implicitDefEqProofs (disch := omega) only [List.any_cons, List.any_nil, Nat.reduceEqDiff, List.map_cons, List.map_nil, Option.map_some, Option.map_none, List.nil_append, ↓reduceIte, vcu0, vcu1, vcu2, vcu3, vcu4, vcu5, vcu6, vcu7, vcu8, vcu9, vcu10, vcu11, vcu12, vcu13, vcu14, ↓vcd0, ↓vcd1, ↓vcd2, opK_some]
    refine fin_one Try.results35 ⟨?_, rfl⟩
    simp -implicitDefEqProofs (disch := omega) only [List.any_cons, List.any_nil, Nat.reduceEqDiff, List.map_cons, List.map_nil, Option.map_some, Option.map_none, List.nil_append, ↓reduceIte, vcu0, vcu1, vcu2, vcu3, vcu4, vcu5, vcu6, vcu7, vcu8, vcu9, vcu10, vcu11, vcu12, vcu13, vcu14, ↓vcd0, ↓vcd1, ↓vcd2]

theorem specSwap_calls (σ : AHeap) (v : Value) (xs : List Int) (hv : Ints .i64 σ v xs) (hl : xs.length ≤ 1048576) :
    ACall Try.prog w0 36 [v] σ fun r σ' => r = .int .i64 (swapV xs) ∧ σ' = σ :=
  ACall.ints_quiet (pre := []) (by kernel_rfl) hv fun σ1 g o _ hg => specSwap_at σ1 g o xs hg hl
theorem implSwap_calls (σ : AHeap) (v : Value) (xs : List Int) (hv : Ints .i64 σ v xs) (hl : xs.length ≤ 1048576) :
    ACall Try.prog w0 35 [v] σ fun r σ' => r = .int .i64 (swapV xs) ∧ σ' = σ :=
  ACall.ints_quiet (pre := []) (by kernel_rfl) hv fun σ1 g o _ hg => implSwap_at σ1 g o xs hg hl

end Go.Proofs.Ytdgbaglhhhbbhaa

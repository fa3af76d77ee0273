/- What the laws of permutations share: the draw of a list, a list with two numbers exchanged, alive. -/
import Derived.Test.YtdgbaglhhhbbhaaPl
set_option linter.unusedSimpArgs false
set_option linter.unusedVariables false
namespace Go.Proofs.Ytdgbaglhhhbbhaa
open Go Go.Abs Go.RowKit
variable {w0 : World}

theorem drawSwaps_at (σ : AHeap) (h o : Nat) (bs : List Int) (hv : IntsAt .u8 σ h o bs) (hl : bs.length ≤ 1048576) (hb : ∀ b ∈ bs, 0 ≤ b ∧ b ≤ 255) :
    ACall Try.prog w0 34 [.slice (some ⟨h, o, none⟩) bs.length 1] σ fun r σ' => ∃ (q : Nat) (ps : List Int), r = .slice (some ⟨q, 0, none⟩) ps.length 1 ∧ ps.length ≤ 7 ∧ Sub σ σ' ∧ σ' q = some ⟨ints .i64 ps, false⟩ ∧ σ q = none := by
  refine acall_go mixed Try.func34 rfl good34 ?_
  simp -implicitDefEqProofs (disch := omega) only [List.any_cons, List.any_nil, Nat.reduceEqDiff, List.map_cons, List.map_nil, Option.map_some, Option.map_none, List.nil_append, ↓reduceIte, vcu0, vcu1, vcu2, vcu3, vcu4, vcu5, vcu6, vcu7, vcu8, vcu9, vcu10, vcu11, vcu12, vcu13, vcu14, ↓vcd0, ↓vcd1, ↓vcd2]
  refine (open_at σ h o bs hl).mono ?_
  rintro r τ ⟨g, m, hg, hm, hmb, rfl, hτ⟩
  have htl : (bs.take m).length = m := by simp; omega
  have hR : Rd σ τ g h o (bs.take m) 0 := ⟨by rw [hτ, htl]; exact AHeap.upd_same _ _ _, by rw [hτ]; exact sub_upd hg, hg, hv.take m, by rw [htl]; exact hm, fun b hb' => hb b (List.mem_of_mem_take hb')⟩
  clear hτ
  simp -implicitDefEqProofs (disch := omega) only [List.any_cons, List.any_nil, Nat.reduceEqDiff, List.map_cons, List.map_nil, Option.map_some, Option.map_none, List.nil_append, ↓reduceIte, vcu0, vcu1, vcu2, vcu3, vcu4, vcu5, vcu6, vcu7, vcu8, vcu9, vcu10, vcu11, vcu12, vcu13, vcu14, ↓vcd0, ↓vcd1, ↓vcd2, opK_some]
  refine (list_draw σ τ g h o (bs.take m) 0 9 hR (by omega) (by omega)).mono ?_
  rintro r τ2 ⟨q, ps, p', rfl, h7, hq, hqf, hqg, -, -, hR2⟩
  simp -implicitDefEqProofs (disch := omega) only [List.any_cons, List.any_nil, Nat.reduceEqDiff, List.map_cons, List.map_nil, Option.map_some, Option.map_none, List.nil_append, ↓reduceIte, vcu0, vcu1, vcu2, vcu3, vcu4, vcu5, vcu6, vcu7, vcu8, vcu9, vcu10, vcu11, vcu12, vcu13, vcu14, ↓vcd0, ↓vcd1, ↓vcd2, opK_some]
  refine fin_one Try.results34 ⟨q, ps, ?_, h7, hR2.sub, hq, hqf⟩
  simp -implicitDefEqProofs (disch := omega) only [List.any_cons, List.any_nil, Nat.reduceEqDiff, List.map_cons, List.map_nil, Option.map_some, Option.map_none, List.nil_append, ↓reduceIte, vcu0, vcu1, vcu2, vcu3, vcu4, vcu5, vcu6, vcu7, vcu8, vcu9, vcu10, vcu11, vcu12, vcu13, vcu14, ↓vcd0, ↓vcd1, ↓vcd2]

theorem alive_at (σ : AHeap) : ACall Try.prog w0 22 [] σ fun r σ' => r = .bool true ∧ σ' = σ := by
  refine acall_go mixed Try.func22 rfl good22 ?_
  simp -implicitDefEqProofs (disch := omega) only [List.any_cons, List.any_nil, Nat.reduceEqDiff, List.map_cons, List.map_nil, Option.map_some, Option.map_none, List.nil_append, ↓reduceIte, vcu0, vcu1, vcu2, vcu3, vcu4, vcu5, vcu6, vcu7, vcu8, vcu9, vcu10, vcu11, vcu12, vcu13, vcu14, ↓vcd0, ↓vcd1, ↓vcd2]
  refine r_lit_at Try.underlying23 ze3 (out := (ints .i64 [1, 0]).toArray) (by kernel_rfl) (by kernel_rfl) fun e1 he1 => ?_
  simp -implicitDefEqProofs (disch := omega) only [List.any_cons, List.any_nil, Nat.reduceEqDiff, List.map_cons, List.map_nil, Option.map_some, Option.map_none, List.nil_append, ↓reduceIte, vcu0, vcu1, vcu2, vcu3, vcu4, vcu5, vcu6, vcu7, vcu8, vcu9, vcu10, vcu11, vcu12, vcu13, vcu14, ↓vcd0, ↓vcd1, ↓vcd2, co3]
  refine (implValid_at _ e1 0 [1, 0] (intsAt_own (AHeap.upd_same _ _ _)) (by simp)).mono ?_
  rintro r σ1 ⟨rfl, rfl⟩
  have d1 : decide (Valid [1, 0]) = true := by decide
  rw [d1]
  simp -implicitDefEqProofs (disch := omega) only [List.any_cons, List.any_nil, Nat.reduceEqDiff, List.map_cons, List.map_nil, Option.map_some, Option.map_none, List.nil_append, ↓reduceIte, vcu0, vcu1, vcu2, vcu3, vcu4, vcu5, vcu6, vcu7, vcu8, vcu9, vcu10, vcu11, vcu12, vcu13, vcu14, ↓vcd0, ↓vcd1, ↓vcd2, opK_some]
  refine r_lit_at Try.underlying23 ze3 (out := (ints .i64 [1, 1]).toArray) (by kernel_rfl) (by kernel_rfl) fun e2 he2 => ?_
  simp -implicitDefEqProofs (disch := omega) only [List.any_cons, List.any_nil, Nat.reduceEqDiff, List.map_cons, List.map_nil, Option.map_some, Option.map_none, List.nil_append, ↓reduceIte, vcu0, vcu1, vcu2, vcu3, vcu4, vcu5, vcu6, vcu7, vcu8, vcu9, vcu10, vcu11, vcu12, vcu13, vcu14, ↓vcd0, ↓vcd1, ↓vcd2, co3]
  refine (implValid_at _ e2 0 [1, 1] (intsAt_own (AHeap.upd_same _ _ _)) (by simp)).mono ?_
  rintro r σ1 ⟨rfl, rfl⟩
  have d2 : decide (Valid [1, 1]) = false := by decide
  rw [d2]
  simp -implicitDefEqProofs (disch := omega) only [List.any_cons, List.any_nil, Nat.reduceEqDiff, List.map_cons, List.map_nil, Option.map_some, Option.map_none, List.nil_append, ↓reduceIte, vcu0, vcu1, vcu2, vcu3, vcu4, vcu5, vcu6, vcu7, vcu8, vcu9, vcu10, vcu11, vcu12, vcu13, vcu14, ↓vcd0, ↓vcd1, ↓vcd2, opK_some]
  refine fin_drop Try.results22 σ (sub_put (sub_upd he1) (free_sub (sub_upd he1) he2)) ⟨?_, rfl⟩
  simp -implicitDefEqProofs (disch := omega) only [List.any_cons, List.any_nil, Nat.reduceEqDiff, List.map_cons, List.map_nil, Option.map_some, Option.map_none, List.nil_append, ↓reduceIte, vcu0, vcu1, vcu2, vcu3, vcu4, vcu5, vcu6, vcu7, vcu8, vcu9, vcu10, vcu11, vcu12, vcu13, vcu14, ↓vcd0, ↓vcd1, ↓vcd2]

def swp (xs : List Int) (a b : Nat) : List Int := (xs.set a (xs.getD b 0)).set b (xs.getD a 0)
theorem swp_length (xs : List Int) (a b : Nat) : (swp xs a b).length = xs.length := by simp [swp]

theorem swapped_at (σ : AHeap) (h o : Nat) (xs : List Int) (a b : Nat) (hq : σ h = some ⟨ints .i64 xs, false⟩) (hl : xs.length ≤ 7) (ha : a < xs.length) (hb : b < xs.length) :
    ACall Try.prog w0 23 [.slice (some ⟨h, 0, none⟩) xs.length 1, .int .i64 a, .int .i64 b] σ fun r σ' => ∃ g, σ g = none ∧ r = .slice (some ⟨g, 0, none⟩) xs.length 1 ∧ Sub σ σ' ∧ σ' g = some ⟨ints .i64 (swp xs a b), false⟩ := by
  refine acall_go mixed Try.func23 rfl good23 ?_
  simp -implicitDefEqProofs (disch := omega) only [List.any_cons, List.any_nil, Nat.reduceEqDiff, List.map_cons, List.map_nil, Option.map_some, Option.map_none, List.nil_append, ↓reduceIte, vcu0, vcu1, vcu2, vcu3, vcu4, vcu5, vcu6, vcu7, vcu8, vcu9, vcu10, vcu11, vcu12, vcu13, vcu14, ↓vcd0, ↓vcd1, ↓vcd2]
  refine r_lit_at Try.underlying23 ze3 (out := #[]) (by kernel_rfl) (by kernel_rfl) fun e1 he1 => ?_
  simp -implicitDefEqProofs (disch := omega) only [List.any_cons, List.any_nil, Nat.reduceEqDiff, List.map_cons, List.map_nil, Option.map_some, Option.map_none, List.nil_append, ↓reduceIte, vcu0, vcu1, vcu2, vcu3, vcu4, vcu5, vcu6, vcu7, vcu8, vcu9, vcu10, vcu11, vcu12, vcu13, vcu14, ↓vcd0, ↓vcd1, ↓vcd2]
  have hq2 : (σ.upd e1 (some ⟨[], false⟩)) h = some ⟨ints .i64 xs, false⟩ := put_other hq he1
  have hsz : Try.t3.size = 1 := rfl
  refine r_append_at Try.underlying23 Try.underlying23 (i := Try.t3) (z := .int .i64 0) (ys := ints .i64 xs) (h := e1) (b := 0) (len := 0) (ob := ⟨[], false⟩) rfl rfl ?_ (by simp -implicitDefEqProofs (disch := omega) only [List.any_cons, List.any_nil, Nat.reduceEqDiff, List.map_cons, List.map_nil, Option.map_some, Option.map_none, List.nil_append, ↓reduceIte, vcu0, vcu1, vcu2, vcu3, vcu4, vcu5, vcu6, vcu7, vcu8, vcu9, vcu10, vcu11, vcu12, vcu13, vcu14, ↓vcd0, ↓vcd1, ↓vcd2, co3]; rfl) (AHeap.upd_same _ _ _) rfl (by simp) (ints_one _) ?_ fun g hg => ?_
  · simp -implicitDefEqProofs (disch := omega) only [List.any_cons, List.any_nil, Nat.reduceEqDiff, List.map_cons, List.map_nil, Option.map_some, Option.map_none, List.nil_append, ↓reduceIte, vcu0, vcu1, vcu2, vcu3, vcu4, vcu5, vcu6, vcu7, vcu8, vcu9, vcu10, vcu11, vcu12, vcu13, vcu14, ↓vcd0, ↓vcd1, ↓vcd2]
    exact acells_at (k := .i64) (o := 0) (xs := xs) (intsAt_own hq2) ⟨_, hq2, by rw [ints_length]; omega⟩
  · rw [ints_length]
    show (0 * 1 + xs.length) * 8 ≤ _ ∧ 0 * 1 + xs.length ≤ _
    omega
  have eb : appd (List.drop 0 ([] : List Value)) (0 * Try.t3.size) (ints .i64 xs) = ints .i64 xs := appd_end [] xs
  rw [eb]
  have hg' : σ g = none := free_sub (sub_upd he1) hg
  have hgh : g ≠ h := by rintro rfl; rw [hq] at hg'; cases hg'
  have he1h : e1 ≠ h := by rintro rfl; rw [hq] at he1; cases he1
  generalize hH : (σ.upd e1 (some ⟨[], false⟩)).upd e1 none = H
  have Hs : Sub σ H := by rw [← hH]; exact sub_put (sub_upd he1) he1
  clear hH
  have hx : ∀ ys, ld (H.upd g (some ⟨ints .i64 ys, false⟩)) h (0 + b) = some (.int .i64 (xs.getD b 0)) := fun ys => (((intsAt_own hq).sub (sub_put Hs hg')) b hb)
  have hy : ∀ ys, ld (H.upd g (some ⟨ints .i64 ys, false⟩)) h (0 + a) = some (.int .i64 (xs.getD a 0)) := fun ys => (((intsAt_own hq).sub (sub_put Hs hg')) a ha)
  generalize hya : xs.getD a 0 = x at hy
  generalize hxb : xs.getD b 0 = y at hx
  simp only [Nat.zero_add] at hx hy
  simp -implicitDefEqProofs (disch := omega) only [List.any_cons, List.any_nil, Nat.reduceEqDiff, List.map_cons, List.map_nil, Option.map_some, Option.map_none, List.nil_append, ↓reduceIte, vcu0, vcu1, vcu2, vcu3, vcu4, vcu5, vcu6, vcu7, vcu8, vcu9, vcu10, vcu11, vcu12, vcu13, vcu14, ↓vcd0, ↓vcd1, ↓vcd2, hx, hy, hsz, ints_length, Nat.div_one, Nat.zero_add]
  have hst := sts_one (σ := H.upd g (some ⟨ints .i64 xs, false⟩)) (h := g) (cs := ints .i64 xs) (i := a) (v := .int .i64 y) (AHeap.upd_same _ _ _) (by rw [ints_length]; exact ha)
  refine r_store_at (h := g) (i := a) (by simp -implicitDefEqProofs (disch := omega) only [List.any_cons, List.any_nil, Nat.reduceEqDiff, List.map_cons, List.map_nil, Option.map_some, Option.map_none, List.nil_append, ↓reduceIte, vcu0, vcu1, vcu2, vcu3, vcu4, vcu5, vcu6, vcu7, vcu8, vcu9, vcu10, vcu11, vcu12, vcu13, vcu14, ↓vcd0, ↓vcd1, ↓vcd2]) (by simp -implicitDefEqProofs (disch := omega) only [List.any_cons, List.any_nil, Nat.reduceEqDiff, List.map_cons, List.map_nil, Option.map_some, Option.map_none, List.nil_append, ↓reduceIte, vcu0, vcu1, vcu2, vcu3, vcu4, vcu5, vcu6, vcu7, vcu8, vcu9, vcu10, vcu11, vcu12, vcu13, vcu14, ↓vcd0, ↓vcd1, ↓vcd2]; rfl) (by simp -implicitDefEqProofs (disch := omega) only [List.any_cons, List.any_nil, Nat.reduceEqDiff, List.map_cons, List.map_nil, Option.map_some, Option.map_none, List.nil_append, ↓reduceIte, vcu0, vcu1, vcu2, vcu3, vcu4, vcu5, vcu6, vcu7, vcu8, vcu9, vcu10, vcu11, vcu12, vcu13, vcu14, ↓vcd0, ↓vcd1, ↓vcd2]; rfl) (by simp -implicitDefEqProofs (disch := omega) only [List.any_cons, List.any_nil, Nat.reduceEqDiff, List.map_cons, List.map_nil, Option.map_some, Option.map_none, List.nil_append, ↓reduceIte, vcu0, vcu1, vcu2, vcu3, vcu4, vcu5, vcu6, vcu7, vcu8, vcu9, vcu10, vcu11, vcu12, vcu13, vcu14, ↓vcd0, ↓vcd1, ↓vcd2]; exact hst) ?_
  rw [ints_set, AHeap.upd_upd]
  simp -implicitDefEqProofs (disch := omega) only [List.any_cons, List.any_nil, Nat.reduceEqDiff, List.map_cons, List.map_nil, Option.map_some, Option.map_none, List.nil_append, ↓reduceIte, vcu0, vcu1, vcu2, vcu3, vcu4, vcu5, vcu6, vcu7, vcu8, vcu9, vcu10, vcu11, vcu12, vcu13, vcu14, ↓vcd0, ↓vcd1, ↓vcd2, hx, hy, Nat.zero_add]
  have hst2 := sts_one (σ := H.upd g (some ⟨ints .i64 (xs.set a y), false⟩)) (h := g) (cs := ints .i64 (xs.set a y)) (i := b) (v := .int .i64 x) (AHeap.upd_same _ _ _) (by rw [ints_length]; simp; exact hb)
  refine r_store_at (h := g) (i := b) (by simp -implicitDefEqProofs (disch := omega) only [List.any_cons, List.any_nil, Nat.reduceEqDiff, List.map_cons, List.map_nil, Option.map_some, Option.map_none, List.nil_append, ↓reduceIte, vcu0, vcu1, vcu2, vcu3, vcu4, vcu5, vcu6, vcu7, vcu8, vcu9, vcu10, vcu11, vcu12, vcu13, vcu14, ↓vcd0, ↓vcd1, ↓vcd2]) (by simp -implicitDefEqProofs (disch := omega) only [List.any_cons, List.any_nil, Nat.reduceEqDiff, List.map_cons, List.map_nil, Option.map_some, Option.map_none, List.nil_append, ↓reduceIte, vcu0, vcu1, vcu2, vcu3, vcu4, vcu5, vcu6, vcu7, vcu8, vcu9, vcu10, vcu11, vcu12, vcu13, vcu14, ↓vcd0, ↓vcd1, ↓vcd2]; rfl) (by simp -implicitDefEqProofs (disch := omega) only [List.any_cons, List.any_nil, Nat.reduceEqDiff, List.map_cons, List.map_nil, Option.map_some, Option.map_none, List.nil_append, ↓reduceIte, vcu0, vcu1, vcu2, vcu3, vcu4, vcu5, vcu6, vcu7, vcu8, vcu9, vcu10, vcu11, vcu12, vcu13, vcu14, ↓vcd0, ↓vcd1, ↓vcd2]; rfl) (by simp -implicitDefEqProofs (disch := omega) only [List.any_cons, List.any_nil, Nat.reduceEqDiff, List.map_cons, List.map_nil, Option.map_some, Option.map_none, List.nil_append, ↓reduceIte, vcu0, vcu1, vcu2, vcu3, vcu4, vcu5, vcu6, vcu7, vcu8, vcu9, vcu10, vcu11, vcu12, vcu13, vcu14, ↓vcd0, ↓vcd1, ↓vcd2]; exact hst2) ?_
  rw [ints_set, AHeap.upd_upd]
  simp -implicitDefEqProofs (disch := omega) only [List.any_cons, List.any_nil, Nat.reduceEqDiff, List.map_cons, List.map_nil, Option.map_some, Option.map_none, List.nil_append, ↓reduceIte, vcu0, vcu1, vcu2, vcu3, vcu4, vcu5, vcu6, vcu7, vcu8, vcu9, vcu10, vcu11, vcu12, vcu13, vcu14, ↓vcd0, ↓vcd1, ↓vcd2]
  refine fin_one Try.results23 ⟨g, hg', ?_, sub_put Hs hg', ?_⟩
  · simp -implicitDefEqProofs (disch := omega) only [List.any_cons, List.any_nil, Nat.reduceEqDiff, List.map_cons, List.map_nil, Option.map_some, Option.map_none, List.nil_append, ↓reduceIte, vcu0, vcu1, vcu2, vcu3, vcu4, vcu5, vcu6, vcu7, vcu8, vcu9, vcu10, vcu11, vcu12, vcu13, vcu14, ↓vcd0, ↓vcd1, ↓vcd2]
  · rw [AHeap.upd_same]; unfold swp; rw [hya, hxb]

end Go.Proofs.Ytdgbaglhhhbbhaa

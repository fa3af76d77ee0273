/- The ways of all inputs; clashes. -/
import Derived.Test.YtgieeafdgdkkcaaXf
set_option linter.unusedSimpArgs false
set_option linter.unusedVariables false
namespace Go.Proofs.Ytgieeafdgdkkcaa
open Go Go.Abs Go.RowKit Go.Ban
variable {w0 : World}

theorem ownI_row {β σ : AHeap} {v : Value} {xs : List Int} (h : OwnI β σ v xs) (h0 : 0 < xs.length) : ∃ g, v = .slice (some ⟨g, 0, none⟩) xs.length 1 ∧ σ g = some ⟨ints .i64 xs, false⟩ ∧ β g = none := by
  rcases h with ⟨_, rfl⟩ | ⟨g, e1, e2, e3⟩
  · simp at h0
  · exact ⟨g, e1, e2, e3⟩
/-- rows of numbers, one behind the other -/
structure WaysAt (σ : AHeap) (g : Nat) (vs : List Value) (n : Nat) (f : Nat → List Int) : Prop where
  at_ : σ g = some ⟨vs, false⟩
  len : vs.length = n
  row : ∀ k, k < n → ∃ h, vs[k]? = some (.slice (some ⟨h, 0, none⟩) (f k).length 1) ∧ σ h = some ⟨ints .i64 (f k), false⟩ ∧ h ≠ g
theorem WaysAt.sub {σ τ : AHeap} {g : Nat} {vs : List Value} {n : Nat} {f : Nat → List Int} (h : WaysAt σ g vs n f) (hs : Sub σ τ) : WaysAt τ g vs n f :=
  ⟨hs _ _ h.at_, h.len, fun k hk => let ⟨a, b, c, d⟩ := h.row k hk; ⟨a, b, hs _ _ c, d⟩⟩
theorem WaysAt.push {σ τ : AHeap} {g g' x : Nat} {vs : List Value} {n : Nat} {f : Nat → List Int} (h : WaysAt σ g vs n f) (hk : Kept g σ τ) (hg : σ g' = none) (ht : τ g' = some ⟨vs ++ [.slice (some ⟨x, 0, none⟩) (f n).length 1], false⟩) (hx : σ x = some ⟨ints .i64 (f n), false⟩) (hxg : x ≠ g) : WaysAt τ g' (vs ++ [.slice (some ⟨x, 0, none⟩) (f n).length 1]) (n + 1) f := by
  refine ⟨ht, by simp [h.len], fun k hk' => ?_⟩
  by_cases e : k = n
  · subst e
    refine ⟨x, ?_, hk.at hx hxg, ne_of' hg hx⟩
    rw [List.getElem?_append_right (by rw [h.len]; exact Nat.le_refl _), h.len, Nat.sub_self]; rfl
  · obtain ⟨a, b, c, d⟩ := h.row k (by omega)
    exact ⟨a, by rw [List.getElem?_append_left (by rw [h.len]; omega)]; exact b, hk.at c d, ne_of' hg c⟩
theorem stepWays_at (σ : AHeap) (h o : Nat) (p : List Int) (hv : IntsAt .i64 σ h o p) (hE : EO p) (lg : Nat) (hlg : lgOf p.length = lg) :
    ACall Try.prog w0 74 [.slice (some ⟨h, o, none⟩) p.length 1] σ fun r σ' => ∃ g vs, r = .slice (some ⟨g, 0, none⟩) p.length 1 ∧ WaysAt σ' g vs p.length (fun k => wayN p.length lg k (qOf p k)) ∧ Sub σ σ' := by
  obtain ⟨lg', e', hL, hq, -, hgd⟩ := hE.fn
  obtain rfl : lg' = lg := by rw [← e', hlg]
  have hle := hL.le
  generalize hLL : p.length = L at *
  refine acall_go mixed Try.func74 rfl good74 fun pr => ?_
  simp -implicitDefEqProofs (disch := omega) only [List.any_cons, List.any_nil, Nat.reduceEqDiff, List.map_cons, List.map_nil, Option.map_some, Option.map_none, List.nil_append, ↓reduceIte, vcu0, vcu1, vcu2, vcu3, vcu4, vcu5, vcu6, vcu7, vcu8, vcu9, vcu10, vcu11, vcu12, vcu13, vcu14, vcu15, vcu16, vcu17, vcu18, vcu19, vcu20, vcu21, vcu22, ↓vcd0, ↓vcd1, ↓vcd2, ↓vcd3]
  refine vc_loop_c mixed (by kernel_rfl) [0, 8, 9] (fun m a τ => ∃ k : Nat, m + k = L ∧ a 10 = .int .i64 k ∧ Sub σ τ ∧ ((k = 0 ∧ a 3 = .slice none 0 0) ∨ ∃ g vs, a 3 = .slice (some ⟨g, 0, none⟩) k 1 ∧ WaysAt τ g vs k (fun k => wayN L lg' k (qOf p k)) ∧ σ g = none)) L ⟨0, by simp, rfl, Sub.refl _, .inl ⟨rfl, rfl⟩⟩ ?_
  rintro m a τ hc ⟨k, hk, h10, hs, ho⟩
  simp -implicitDefEqProofs (disch := omega) only [List.any_cons, List.any_nil, Nat.reduceEqDiff, List.map_cons, List.map_nil, Option.map_some, Option.map_none, List.nil_append, ↓reduceIte, vcu0, vcu1, vcu2, vcu3, vcu4, vcu5, vcu6, vcu7, vcu8, vcu9, vcu10, vcu11, vcu12, vcu13, vcu14, vcu15, vcu16, vcu17, vcu18, vcu19, vcu20, vcu21, vcu22, ↓vcd0, ↓vcd1, ↓vcd2, ↓vcd3] at hc
  obtain ⟨h0, h8, h9, -⟩ := hc
  by_cases hlt : k < L
  · have hx := hv.sub hs k (by omega)
    rw [hgd k hlt] at hx
    obtain ⟨y1, y2⟩ := wayV_ls hL (i := k) (o := qOf p k) hlt (hq.1 k hlt)
    simp -implicitDefEqProofs (disch := omega) only [List.any_cons, List.any_nil, Nat.reduceEqDiff, List.map_cons, List.map_nil, Option.map_some, Option.map_none, List.nil_append, ↓reduceIte, vcu0, vcu1, vcu2, vcu3, vcu4, vcu5, vcu6, vcu7, vcu8, vcu9, vcu10, vcu11, vcu12, vcu13, vcu14, vcu15, vcu16, vcu17, vcu18, vcu19, vcu20, vcu21, vcu22, ↓vcd0, ↓vcd1, ↓vcd2, ↓vcd3, h0, h8, h9, h10, hx]
    refine (implWay_at τ L k (qOf p k) (by unfold InR; omega)).mono ?_
    rintro r τ4 ⟨y, rfl, s4, w4⟩
    rw [y2] at w4
    rw [decide_eq_true y1]
    obtain ⟨x, rfl, v4, n4⟩ := ownI_row w4 (by rw [wayN_length]; omega)
    simp -implicitDefEqProofs (disch := omega) only [List.any_cons, List.any_nil, Nat.reduceEqDiff, List.map_cons, List.map_nil, Option.map_some, Option.map_none, List.nil_append, ↓reduceIte, vcu0, vcu1, vcu2, vcu3, vcu4, vcu5, vcu6, vcu7, vcu8, vcu9, vcu10, vcu11, vcu12, vcu13, vcu14, vcu15, vcu16, vcu17, vcu18, vcu19, vcu20, vcu21, vcu22, ↓vcd0, ↓vcd1, ↓vcd2, ↓vcd3, opK_some, List.getElem?_toArray, List.getElem?_cons_zero, List.getElem?_cons_succ, h0, h8, h9, h10]
    refine r_lit el59 (out := #[.slice (some ⟨x, 0, none⟩) (wayN L lg' k (qOf p k)).length 1]) (by simp -implicitDefEqProofs (disch := omega) only [List.any_cons, List.any_nil, Nat.reduceEqDiff, List.map_cons, List.map_nil, Option.map_some, Option.map_none, List.nil_append, ↓reduceIte, vcu0, vcu1, vcu2, vcu3, vcu4, vcu5, vcu6, vcu7, vcu8, vcu9, vcu10, vcu11, vcu12, vcu13, vcu14, vcu15, vcu16, vcu17, vcu18, vcu19, vcu20, vcu21, vcu22, ↓vcd0, ↓vcd1, ↓vcd2, ↓vcd3]; kernel_rfl) (by rfl) fun e τ5 n5 s5 v5 => ?_
    have hce : acells 1 τ5 (.slice (some ⟨e, 0, none⟩) 1 1) = some [.slice (some ⟨x, 0, none⟩) (wayN L lg' k (qOf p k)).length 1] := by
      simp [acells, lds, v5]
    rcases ho with ⟨rfl, h3⟩ | ⟨g, vs, h3, hW, ng⟩
    · refine r_push_nil el59 sl59 (by simp -implicitDefEqProofs (disch := omega) only [List.any_cons, List.any_nil, Nat.reduceEqDiff, List.map_cons, List.map_nil, Option.map_some, Option.map_none, List.nil_append, ↓reduceIte, vcu0, vcu1, vcu2, vcu3, vcu4, vcu5, vcu6, vcu7, vcu8, vcu9, vcu10, vcu11, vcu12, vcu13, vcu14, vcu15, vcu16, vcu17, vcu18, vcu19, vcu20, vcu21, vcu22, ↓vcd0, ↓vcd1, ↓vcd2, ↓vcd3, h3]) (by simp -implicitDefEqProofs (disch := omega) only [List.any_cons, List.any_nil, Nat.reduceEqDiff, List.map_cons, List.map_nil, Option.map_some, Option.map_none, List.nil_append, ↓reduceIte, vcu0, vcu1, vcu2, vcu3, vcu4, vcu5, vcu6, vcu7, vcu8, vcu9, vcu10, vcu11, vcu12, vcu13, vcu14, vcu15, vcu16, vcu17, vcu18, vcu19, vcu20, vcu21, vcu22, ↓vcd0, ↓vcd1, ↓vcd2, ↓vcd3]; exact hce) (by simp) fun g' τ6 n6 s6 v6 => ?_
      simp -implicitDefEqProofs (disch := omega) only [List.any_cons, List.any_nil, Nat.reduceEqDiff, List.map_cons, List.map_nil, Option.map_some, Option.map_none, List.nil_append, ↓reduceIte, vcu0, vcu1, vcu2, vcu3, vcu4, vcu5, vcu6, vcu7, vcu8, vcu9, vcu10, vcu11, vcu12, vcu13, vcu14, vcu15, vcu16, vcu17, vcu18, vcu19, vcu20, vcu21, vcu22, ↓vcd0, ↓vcd1, ↓vcd2, ↓vcd3, h0, h8, h9, h10]
      refine ⟨⟨trivial, trivial, trivial, trivial⟩, m - 1, by omega, 0 + 1, by omega, by simp, hs.trans (s4.trans (s5.trans s6)), .inr ⟨g', _, by simp, ⟨v6, rfl, fun j hj => ?_⟩, free_sub (hs.trans (s4.trans s5)) n6⟩⟩
      obtain rfl : j = 0 := by omega
      exact ⟨x, rfl, s6 _ _ (s5 _ _ v4), ne_of' n6 (s5 _ _ v4)⟩
    · have hW5 := hW.sub (s4.trans s5)
      refine r_push (g := g) (len := k) (C := vs) el59 sl59 (by simp -implicitDefEqProofs (disch := omega) only [List.any_cons, List.any_nil, Nat.reduceEqDiff, List.map_cons, List.map_nil, Option.map_some, Option.map_none, List.nil_append, ↓reduceIte, vcu0, vcu1, vcu2, vcu3, vcu4, vcu5, vcu6, vcu7, vcu8, vcu9, vcu10, vcu11, vcu12, vcu13, vcu14, vcu15, vcu16, vcu17, vcu18, vcu19, vcu20, vcu21, vcu22, ↓vcd0, ↓vcd1, ↓vcd2, ↓vcd3, h3]) hW5.at_ (by rw [hW5.len]; omega) (by simp -implicitDefEqProofs (disch := omega) only [List.any_cons, List.any_nil, Nat.reduceEqDiff, List.map_cons, List.map_nil, Option.map_some, Option.map_none, List.nil_append, ↓reduceIte, vcu0, vcu1, vcu2, vcu3, vcu4, vcu5, vcu6, vcu7, vcu8, vcu9, vcu10, vcu11, vcu12, vcu13, vcu14, vcu15, vcu16, vcu17, vcu18, vcu19, vcu20, vcu21, vcu22, ↓vcd0, ↓vcd1, ↓vcd2, ↓vcd3]; exact hce) rfl (by simp; omega) fun g' τ6 n6 k6 v6 => ?_
      have hxg : x ≠ g := ne_of n4 hW.at_
      simp -implicitDefEqProofs (disch := omega) only [List.any_cons, List.any_nil, Nat.reduceEqDiff, List.map_cons, List.map_nil, Option.map_some, Option.map_none, List.nil_append, ↓reduceIte, vcu0, vcu1, vcu2, vcu3, vcu4, vcu5, vcu6, vcu7, vcu8, vcu9, vcu10, vcu11, vcu12, vcu13, vcu14, vcu15, vcu16, vcu17, vcu18, vcu19, vcu20, vcu21, vcu22, ↓vcd0, ↓vcd1, ↓vcd2, ↓vcd3, h0, h8, h9, h10]
      refine ⟨⟨trivial, trivial, trivial, trivial⟩, m - 1, by omega, k + 1, by omega, by simp, k6.sub (hs.trans (s4.trans s5)) ng, .inr ⟨g', _, by simp, hW5.push k6 n6 v6 (s5 _ _ v4) hxg, free_sub (hs.trans (s4.trans s5)) n6⟩⟩
  · have e : k = L := by omega
    subst e
    rcases ho with ⟨rfl, h3⟩ | ⟨g, vs, h3, hW, ng⟩
    · omega
    · simp -implicitDefEqProofs (disch := omega) only [List.any_cons, List.any_nil, Nat.reduceEqDiff, List.map_cons, List.map_nil, Option.map_some, Option.map_none, List.nil_append, ↓reduceIte, vcu0, vcu1, vcu2, vcu3, vcu4, vcu5, vcu6, vcu7, vcu8, vcu9, vcu10, vcu11, vcu12, vcu13, vcu14, vcu15, vcu16, vcu17, vcu18, vcu19, vcu20, vcu21, vcu22, ↓vcd0, ↓vcd1, ↓vcd2, ↓vcd3, h0, h8, h9, h10]
      refine fin_one Try.results74 ⟨g, vs, ?_, hW, hs⟩
      simp -implicitDefEqProofs (disch := omega) only [List.any_cons, List.any_nil, Nat.reduceEqDiff, List.map_cons, List.map_nil, Option.map_some, Option.map_none, List.nil_append, ↓reduceIte, vcu0, vcu1, vcu2, vcu3, vcu4, vcu5, vcu6, vcu7, vcu8, vcu9, vcu10, vcu11, vcu12, vcu13, vcu14, vcu15, vcu16, vcu17, vcu18, vcu19, vcu20, vcu21, vcu22, ↓vcd0, ↓vcd1, ↓vcd2, ↓vcd3, h3]

def clV (p : List Int) : Int := if EO p then (allC p.length (lgOf p.length) (qOf p) p.length : Int) else -1
theorem implCl_at (σ : AHeap) (h o : Nat) (p : List Int) (hv : IntsAt .i64 σ h o p) (hl : p.length ≤ 1048576) :
    ACall Try.prog w0 37 [.slice (some ⟨h, o, none⟩) p.length 1] σ fun r σ' => r = .int .i64 (clV p) ∧ σ' = σ := by
  unfold clV
  refine acall_go mixed Try.func37 rfl good37 fun pr => ?_
  simp -implicitDefEqProofs (disch := omega) only [List.any_cons, List.any_nil, Nat.reduceEqDiff, List.map_cons, List.map_nil, Option.map_some, Option.map_none, List.nil_append, ↓reduceIte, vcu0, vcu1, vcu2, vcu3, vcu4, vcu5, vcu6, vcu7, vcu8, vcu9, vcu10, vcu11, vcu12, vcu13, vcu14, vcu15, vcu16, vcu17, vcu18, vcu19, vcu20, vcu21, vcu22, ↓vcd0, ↓vcd1, ↓vcd2, ↓vcd3]
  refine (eachOnce_at σ h o p hv hl).mono ?_
  rintro r _ ⟨rfl, rfl⟩
  rename_i σ
  by_cases hE : EO p
  case neg =>
    rw [decide_eq_false hE, if_neg hE]
    simp -implicitDefEqProofs (disch := omega) only [List.any_cons, List.any_nil, Nat.reduceEqDiff, List.map_cons, List.map_nil, Option.map_some, Option.map_none, List.nil_append, ↓reduceIte, vcu0, vcu1, vcu2, vcu3, vcu4, vcu5, vcu6, vcu7, vcu8, vcu9, vcu10, vcu11, vcu12, vcu13, vcu14, vcu15, vcu16, vcu17, vcu18, vcu19, vcu20, vcu21, vcu22, ↓vcd0, ↓vcd1, ↓vcd2, ↓vcd3, opK_some, Bool.not_false]
    refine fin_one Try.results37 ⟨?_, rfl⟩
    simp -implicitDefEqProofs (disch := omega) only [List.any_cons, List.any_nil, Nat.reduceEqDiff, List.map_cons, List.map_nil, Option.map_some, Option.map_none, List.nil_append, ↓reduceIte, vcu0, vcu1, vcu2, vcu3, vcu4, vcu5, vcu6, vcu7, vcu8, vcu9, vcu10, vcu11, vcu12, vcu13, vcu14, vcu15, vcu16, vcu17, vcu18, vcu19, vcu20, vcu21, vcu22, ↓vcd0, ↓vcd1, ↓vcd2, ↓vcd3]
  rw [decide_eq_true hE, if_pos hE]
  obtain ⟨lg, e', hL, hq, -, hgd⟩ := hE.fn
  rw [e']
  have hle := hL.le
  have hsw := stepWays_at (w0 := w0) σ h o p hv hE lg e'
  generalize hLL : p.length = L at *
  simp -implicitDefEqProofs (disch := omega) only [List.any_cons, List.any_nil, Nat.reduceEqDiff, List.map_cons, List.map_nil, Option.map_some, Option.map_none, List.nil_append, ↓reduceIte, vcu0, vcu1, vcu2, vcu3, vcu4, vcu5, vcu6, vcu7, vcu8, vcu9, vcu10, vcu11, vcu12, vcu13, vcu14, vcu15, vcu16, vcu17, vcu18, vcu19, vcu20, vcu21, vcu22, ↓vcd0, ↓vcd1, ↓vcd2, ↓vcd3, opK_some, Bool.not_true]
  refine hsw.mono ?_
  rintro r τ ⟨g, vs, rfl, hW, hs⟩
  simp -implicitDefEqProofs (disch := omega) only [List.any_cons, List.any_nil, Nat.reduceEqDiff, List.map_cons, List.map_nil, Option.map_some, Option.map_none, List.nil_append, ↓reduceIte, vcu0, vcu1, vcu2, vcu3, vcu4, vcu5, vcu6, vcu7, vcu8, vcu9, vcu10, vcu11, vcu12, vcu13, vcu14, vcu15, vcu16, vcu17, vcu18, vcu19, vcu20, vcu21, vcu22, ↓vcd0, ↓vcd1, ↓vcd2, ↓vcd3, opK_some]
  have bound : ∀ k b, k < L → b ≤ k → allC L lg (qOf p) k + rowC L lg (qOf p) k b ≤ 64 := fun k b hk hb => by
    have h1 := allC_le L lg (qOf p) k
    have h2 := rowC_le L lg (qOf p) k b
    have h3 : k * (k - 1) ≤ 7 * 7 := Nat.mul_le_mul (by omega) (by omega)
    omega
  refine vc_loop_c mixed (by kernel_rfl) [3, 14, 15] (fun m a τ' => ∃ k : Nat, m + k = L ∧ a 16 = .int .i64 k ∧ a 4 = .int .i64 (allC L lg (qOf p) k : Nat) ∧ τ' = τ) L ⟨0, by simp, rfl, rfl, rfl⟩ ?_
  rintro m a _ hc ⟨k, hk, h16, h4, rfl⟩
  simp -implicitDefEqProofs (disch := omega) only [List.any_cons, List.any_nil, Nat.reduceEqDiff, List.map_cons, List.map_nil, Option.map_some, Option.map_none, List.nil_append, ↓reduceIte, vcu0, vcu1, vcu2, vcu3, vcu4, vcu5, vcu6, vcu7, vcu8, vcu9, vcu10, vcu11, vcu12, vcu13, vcu14, vcu15, vcu16, vcu17, vcu18, vcu19, vcu20, vcu21, vcu22, ↓vcd0, ↓vcd1, ↓vcd2, ↓vcd3] at hc
  obtain ⟨h3, h14, h15, -⟩ := hc
  rename_i τ
  by_cases hlt : k < L
  · obtain ⟨x, c1, c2, c3⟩ := hW.row k hlt
    have hx : ld τ g (0 + k) = some (.slice (some ⟨x, 0, none⟩) (wayN L lg k (qOf p k)).length 1) := ld_of hW.at_ (by rw [Nat.zero_add]; exact c1)
    rw [wayN_length] at hx
    simp -implicitDefEqProofs (disch := omega) only [List.any_cons, List.any_nil, Nat.reduceEqDiff, List.map_cons, List.map_nil, Option.map_some, Option.map_none, List.nil_append, ↓reduceIte, vcu0, vcu1, vcu2, vcu3, vcu4, vcu5, vcu6, vcu7, vcu8, vcu9, vcu10, vcu11, vcu12, vcu13, vcu14, vcu15, vcu16, vcu17, vcu18, vcu19, vcu20, vcu21, vcu22, ↓vcd0, ↓vcd1, ↓vcd2, ↓vcd3, h3, h14, h15, h16, hx, Nat.mul_one]
    refine vc_loop_c mixed (by kernel_rfl) [3, 5, 6, 14, 15, 16, 23, 24] (fun m a τ' => ∃ b : Nat, m + b = k ∧ a 25 = .int .i64 b ∧ a 4 = .int .i64 ((allC L lg (qOf p) k + rowC L lg (qOf p) k b : Nat) : Int) ∧ τ' = τ) k ⟨0, by simp, rfl, by simp -implicitDefEqProofs (disch := omega) only [List.any_cons, List.any_nil, Nat.reduceEqDiff, List.map_cons, List.map_nil, Option.map_some, Option.map_none, List.nil_append, ↓reduceIte, vcu0, vcu1, vcu2, vcu3, vcu4, vcu5, vcu6, vcu7, vcu8, vcu9, vcu10, vcu11, vcu12, vcu13, vcu14, vcu15, vcu16, vcu17, vcu18, vcu19, vcu20, vcu21, vcu22, ↓vcd0, ↓vcd1, ↓vcd2, ↓vcd3, h4]; rfl, rfl⟩ ?_
    rintro m2 a2 _ hc2 ⟨b, hb, h25, h4', rfl⟩
    simp -implicitDefEqProofs (disch := omega) only [List.any_cons, List.any_nil, Nat.reduceEqDiff, List.map_cons, List.map_nil, Option.map_some, Option.map_none, List.nil_append, ↓reduceIte, vcu0, vcu1, vcu2, vcu3, vcu4, vcu5, vcu6, vcu7, vcu8, vcu9, vcu10, vcu11, vcu12, vcu13, vcu14, vcu15, vcu16, vcu17, vcu18, vcu19, vcu20, vcu21, vcu22, ↓vcd0, ↓vcd1, ↓vcd2, ↓vcd3, h3, h14, h15, h16] at hc2
    obtain ⟨g3, g5, g6, g14, g15, g16, g23, g24, -⟩ := hc2
    rename_i τ
    by_cases hbk : b < k
    · obtain ⟨y, d1, d2, d3⟩ := hW.row b (by omega)
      have hy : ld τ g (0 + b) = some (.slice (some ⟨y, 0, none⟩) (wayN L lg b (qOf p b)).length 1) := ld_of hW.at_ (by rw [Nat.zero_add]; exact d1)
      have hm := meet_at (w0 := w0) τ x 0 y 0 _ _ (intsAt_own c2) (intsAt_own d2) (by rw [wayN_length]; omega) (by rw [wayN_length, wayN_length])
      rw [wayN_length] at hm
      rw [mt_ways, wayN_length] at hm
      rw [wayN_length] at hy
      have hrow : rowC L lg (qOf p) k (b + 1) = rowC L lg (qOf p) k b + (bif cl L lg (qOf p) k b then 1 else 0) := rfl
      have hbd := bound k b hlt (by omega)
      simp -implicitDefEqProofs (disch := omega) only [List.any_cons, List.any_nil, Nat.reduceEqDiff, List.map_cons, List.map_nil, Option.map_some, Option.map_none, List.nil_append, ↓reduceIte, vcu0, vcu1, vcu2, vcu3, vcu4, vcu5, vcu6, vcu7, vcu8, vcu9, vcu10, vcu11, vcu12, vcu13, vcu14, vcu15, vcu16, vcu17, vcu18, vcu19, vcu20, vcu21, vcu22, ↓vcd0, ↓vcd1, ↓vcd2, ↓vcd3, g3, g5, g6, g14, g15, g16, g23, g24, h25, hy, Nat.mul_one]
      refine hm.mono ?_
      rintro r _ ⟨rfl, rfl⟩
      cases hcl : cl L lg (qOf p) k b with
      | true =>
        rw [hcl] at hrow
        simp -implicitDefEqProofs (disch := omega) only [List.any_cons, List.any_nil, Nat.reduceEqDiff, List.map_cons, List.map_nil, Option.map_some, Option.map_none, List.nil_append, ↓reduceIte, vcu0, vcu1, vcu2, vcu3, vcu4, vcu5, vcu6, vcu7, vcu8, vcu9, vcu10, vcu11, vcu12, vcu13, vcu14, vcu15, vcu16, vcu17, vcu18, vcu19, vcu20, vcu21, vcu22, ↓vcd0, ↓vcd1, ↓vcd2, ↓vcd3, opK_some, h4', g3, g5, g6, g14, g15, g16, g23, g24, h25]
        refine ⟨⟨h3.symm, trivial, trivial, h14.symm, h15.symm, h16.symm, trivial, trivial, trivial⟩, m2 - 1, by omega, b + 1, by omega, by simp, ?_, trivial⟩
        rw [hrow]; simp; omega
      | false =>
        rw [hcl] at hrow
        simp -implicitDefEqProofs (disch := omega) only [List.any_cons, List.any_nil, Nat.reduceEqDiff, List.map_cons, List.map_nil, Option.map_some, Option.map_none, List.nil_append, ↓reduceIte, vcu0, vcu1, vcu2, vcu3, vcu4, vcu5, vcu6, vcu7, vcu8, vcu9, vcu10, vcu11, vcu12, vcu13, vcu14, vcu15, vcu16, vcu17, vcu18, vcu19, vcu20, vcu21, vcu22, ↓vcd0, ↓vcd1, ↓vcd2, ↓vcd3, opK_some, h4', g3, g5, g6, g14, g15, g16, g23, g24, h25]
        refine ⟨⟨h3.symm, trivial, trivial, h14.symm, h15.symm, h16.symm, trivial, trivial, trivial⟩, m2 - 1, by omega, b + 1, by omega, by simp, ?_, trivial⟩
        rw [hrow]; simp
    · have e : b = k := by omega
      subst e
      simp -implicitDefEqProofs (disch := omega) only [List.any_cons, List.any_nil, Nat.reduceEqDiff, List.map_cons, List.map_nil, Option.map_some, Option.map_none, List.nil_append, ↓reduceIte, vcu0, vcu1, vcu2, vcu3, vcu4, vcu5, vcu6, vcu7, vcu8, vcu9, vcu10, vcu11, vcu12, vcu13, vcu14, vcu15, vcu16, vcu17, vcu18, vcu19, vcu20, vcu21, vcu22, ↓vcd0, ↓vcd1, ↓vcd2, ↓vcd3, g3, g5, g6, g14, g15, g16, g23, g24, h25]
      exact ⟨⟨trivial, trivial, trivial, trivial⟩, m - 1, by omega, b + 1, by omega, by simp, h4', trivial⟩
  · have e : k = L := by omega
    subst e
    simp -implicitDefEqProofs (disch := omega) only [List.any_cons, List.any_nil, Nat.reduceEqDiff, List.map_cons, List.map_nil, Option.map_some, Option.map_none, List.nil_append, ↓reduceIte, vcu0, vcu1, vcu2, vcu3, vcu4, vcu5, vcu6, vcu7, vcu8, vcu9, vcu10, vcu11, vcu12, vcu13, vcu14, vcu15, vcu16, vcu17, vcu18, vcu19, vcu20, vcu21, vcu22, ↓vcd0, ↓vcd1, ↓vcd2, ↓vcd3, h3, h14, h15, h16, h4]
    refine fin_drop Try.results37 σ hs ⟨?_, rfl⟩
    simp -implicitDefEqProofs (disch := omega) only [List.any_cons, List.any_nil, Nat.reduceEqDiff, List.map_cons, List.map_nil, Option.map_some, Option.map_none, List.nil_append, ↓reduceIte, vcu0, vcu1, vcu2, vcu3, vcu4, vcu5, vcu6, vcu7, vcu8, vcu9, vcu10, vcu11, vcu12, vcu13, vcu14, vcu15, vcu16, vcu17, vcu18, vcu19, vcu20, vcu21, vcu22, ↓vcd0, ↓vcd1, ↓vcd2, ↓vcd3, h4]
end Go.Proofs.Ytgieeafdgdkkcaa

/- Ways through the step network. -/
import Derived.Test.YtgieeafdgdkkcaaXc
set_option linter.unusedSimpArgs false
set_option linter.unusedVariables false
namespace Go.Proofs.Ytgieeafdgdkkcaa
open Go Go.Abs Go.RowKit Go.Ban
variable {w0 : World}

def WOk (z i o : Int) : Prop := lgOf z ≠ 0 ∧ 0 ≤ i ∧ i < z ∧ 0 ≤ o ∧ o < z
instance (z i o : Int) : Decidable (WOk z i o) := by unfold WOk; infer_instance
def wayN (L lg i o : Nat) : List Int := tabI lg fun s => wp L lg o i (s + 1)
def wayV (z i o : Int) : List Int := if WOk z i o then wayN z.toNat (lgOf z) i.toNat o.toNat else []
theorem wayV_ls {L lg : Nat} (h : Ls L lg) {i o : Nat} (hi : i < L) (ho : o < L) : WOk L i o ∧ wayV L i o = wayN L lg i o := by
  have h1 := lgOf_of h
  have h2 := h.le
  have hk : WOk (L : Int) i o := ⟨by omega, by omega, by omega, by omega, by omega⟩
  refine ⟨hk, ?_⟩
  unfold wayV; rw [if_pos hk, h1]; simp
theorem wayN_length (L lg i o : Nat) : (wayN L lg i o).length = lg := tabI_length _ _
theorem wayN_getD {L lg i o s : Nat} (h : s < lg) : (wayN L lg i o).getD s 0 = (wp L lg o i (s + 1) : Int) := tabI_getD h

/-- what a step's weight is -/
theorem weight {L lg : Nat} (h : Ls L lg) (o : Nat) {s : Nat} (hs : s < lg) : ∃ W : Nat, L / 2 ^ (s + 1) = W ∧ 0 < W ∧ W ≤ 4 ∧ o / W % 2 = bt lg o s ∧ W / 2 = L / 2 ^ (s + 1 + 1) := by
  rcases h with ⟨rfl, rfl⟩ | ⟨rfl, rfl⟩ | ⟨rfl, rfl⟩
  · obtain rfl : s = 0 := by omega
    exact ⟨1, by decide, by decide, by decide, rfl, by decide⟩
  · obtain rfl | rfl : s = 0 ∨ s = 1 := by omega
    · exact ⟨2, by decide, by decide, by decide, rfl, by decide⟩
    · exact ⟨1, by decide, by decide, by decide, rfl, by decide⟩
  · obtain rfl | rfl | rfl : s = 0 ∨ s = 1 ∨ s = 2 := by omega
    · exact ⟨4, by decide, by decide, by decide, rfl, by decide⟩
    · exact ⟨2, by decide, by decide, by decide, rfl, by decide⟩
    · exact ⟨1, by decide, by decide, by decide, rfl, by decide⟩
theorem weight_end {L lg : Nat} (h : Ls L lg) : L / 2 ^ (lg + 1) = 0 := by rcases h with ⟨rfl, rfl⟩ | ⟨rfl, rfl⟩ | ⟨rfl, rfl⟩ <;> decide

theorem implWay_at (σ : AHeap) (z i o : Int) (hz : InR z) : ACall Try.prog w0 34 [.int .i64 z, .int .i64 i, .int .i64 o] σ fun r σ' => ∃ v, r = .tuple #[v, .bool (decide (WOk z i o))] ∧ Sub σ σ' ∧ OwnI σ σ' v (wayV z i o) := by
  refine acall_go mixed Try.func34 rfl good34 fun pr => ?_
  simp -implicitDefEqProofs (disch := omega) only [List.any_cons, List.any_nil, Nat.reduceEqDiff, List.map_cons, List.map_nil, Option.map_some, Option.map_none, List.nil_append, ↓reduceIte, vcu0, vcu1, vcu2, vcu3, vcu4, vcu5, vcu6, vcu7, vcu8, vcu9, vcu10, vcu11, vcu12, vcu13, vcu14, vcu15, vcu16, vcu17, vcu18, vcu19, vcu20, vcu21, vcu22, ↓vcd0, ↓vcd1, ↓vcd2, ↓vcd3]
  refine (stepsFor_at σ _).mono ?_
  rintro r _ ⟨rfl, rfl⟩
  rename_i σ
  have no : ¬ WOk z i o → wayV z i o = [] ∧ decide (WOk z i o) = false := fun h => ⟨by unfold wayV; rw [if_neg h], decide_eq_false h⟩
  by_cases h : lgOf z = 0
  · obtain ⟨n1, n2⟩ := no fun hw => hw.1 h
    rw [n1, n2, h]
    simp -implicitDefEqProofs (disch := omega) only [List.any_cons, List.any_nil, Nat.reduceEqDiff, List.map_cons, List.map_nil, Option.map_some, Option.map_none, List.nil_append, ↓reduceIte, vcu0, vcu1, vcu2, vcu3, vcu4, vcu5, vcu6, vcu7, vcu8, vcu9, vcu10, vcu11, vcu12, vcu13, vcu14, vcu15, vcu16, vcu17, vcu18, vcu19, vcu20, vcu21, vcu22, ↓vcd0, ↓vcd1, ↓vcd2, ↓vcd3, opK_some, Int.natCast_zero]
    refine fin_two Try.results34 ⟨.slice none 0 0, ?_, Sub.refl _, .inl ⟨rfl, rfl⟩⟩
    simp -implicitDefEqProofs (disch := omega) only [List.any_cons, List.any_nil, Nat.reduceEqDiff, List.map_cons, List.map_nil, Option.map_some, Option.map_none, List.nil_append, ↓reduceIte, vcu0, vcu1, vcu2, vcu3, vcu4, vcu5, vcu6, vcu7, vcu8, vcu9, vcu10, vcu11, vcu12, vcu13, vcu14, vcu15, vcu16, vcu17, vcu18, vcu19, vcu20, vcu21, vcu22, ↓vcd0, ↓vcd1, ↓vcd2, ↓vcd3]
  have h' : (lgOf z : Int) ≠ 0 := by omega
  by_cases h1 : i < 0
  · obtain ⟨n1, n2⟩ := no fun hw => by have := hw.2; omega
    rw [n1, n2]
    simp -implicitDefEqProofs (disch := omega) only [List.any_cons, List.any_nil, Nat.reduceEqDiff, List.map_cons, List.map_nil, Option.map_some, Option.map_none, List.nil_append, ↓reduceIte, vcu0, vcu1, vcu2, vcu3, vcu4, vcu5, vcu6, vcu7, vcu8, vcu9, vcu10, vcu11, vcu12, vcu13, vcu14, vcu15, vcu16, vcu17, vcu18, vcu19, vcu20, vcu21, vcu22, ↓vcd0, ↓vcd1, ↓vcd2, ↓vcd3, opK_some]
    refine fin_two Try.results34 ⟨.slice none 0 0, ?_, Sub.refl _, .inl ⟨rfl, rfl⟩⟩
    simp -implicitDefEqProofs (disch := omega) only [List.any_cons, List.any_nil, Nat.reduceEqDiff, List.map_cons, List.map_nil, Option.map_some, Option.map_none, List.nil_append, ↓reduceIte, vcu0, vcu1, vcu2, vcu3, vcu4, vcu5, vcu6, vcu7, vcu8, vcu9, vcu10, vcu11, vcu12, vcu13, vcu14, vcu15, vcu16, vcu17, vcu18, vcu19, vcu20, vcu21, vcu22, ↓vcd0, ↓vcd1, ↓vcd2, ↓vcd3]
  by_cases h2 : z ≤ i
  · obtain ⟨n1, n2⟩ := no fun hw => by have := hw.2; omega
    rw [n1, n2]
    simp -implicitDefEqProofs (disch := omega) only [List.any_cons, List.any_nil, Nat.reduceEqDiff, List.map_cons, List.map_nil, Option.map_some, Option.map_none, List.nil_append, ↓reduceIte, vcu0, vcu1, vcu2, vcu3, vcu4, vcu5, vcu6, vcu7, vcu8, vcu9, vcu10, vcu11, vcu12, vcu13, vcu14, vcu15, vcu16, vcu17, vcu18, vcu19, vcu20, vcu21, vcu22, ↓vcd0, ↓vcd1, ↓vcd2, ↓vcd3, opK_some]
    refine fin_two Try.results34 ⟨.slice none 0 0, ?_, Sub.refl _, .inl ⟨rfl, rfl⟩⟩
    simp -implicitDefEqProofs (disch := omega) only [List.any_cons, List.any_nil, Nat.reduceEqDiff, List.map_cons, List.map_nil, Option.map_some, Option.map_none, List.nil_append, ↓reduceIte, vcu0, vcu1, vcu2, vcu3, vcu4, vcu5, vcu6, vcu7, vcu8, vcu9, vcu10, vcu11, vcu12, vcu13, vcu14, vcu15, vcu16, vcu17, vcu18, vcu19, vcu20, vcu21, vcu22, ↓vcd0, ↓vcd1, ↓vcd2, ↓vcd3]
  by_cases h3 : o < 0
  · obtain ⟨n1, n2⟩ := no fun hw => by have := hw.2; omega
    rw [n1, n2]
    simp -implicitDefEqProofs (disch := omega) only [List.any_cons, List.any_nil, Nat.reduceEqDiff, List.map_cons, List.map_nil, Option.map_some, Option.map_none, List.nil_append, ↓reduceIte, vcu0, vcu1, vcu2, vcu3, vcu4, vcu5, vcu6, vcu7, vcu8, vcu9, vcu10, vcu11, vcu12, vcu13, vcu14, vcu15, vcu16, vcu17, vcu18, vcu19, vcu20, vcu21, vcu22, ↓vcd0, ↓vcd1, ↓vcd2, ↓vcd3, opK_some]
    refine fin_two Try.results34 ⟨.slice none 0 0, ?_, Sub.refl _, .inl ⟨rfl, rfl⟩⟩
    simp -implicitDefEqProofs (disch := omega) only [List.any_cons, List.any_nil, Nat.reduceEqDiff, List.map_cons, List.map_nil, Option.map_some, Option.map_none, List.nil_append, ↓reduceIte, vcu0, vcu1, vcu2, vcu3, vcu4, vcu5, vcu6, vcu7, vcu8, vcu9, vcu10, vcu11, vcu12, vcu13, vcu14, vcu15, vcu16, vcu17, vcu18, vcu19, vcu20, vcu21, vcu22, ↓vcd0, ↓vcd1, ↓vcd2, ↓vcd3]
  by_cases h4 : z ≤ o
  · obtain ⟨n1, n2⟩ := no fun hw => by have := hw.2; omega
    rw [n1, n2]
    simp -implicitDefEqProofs (disch := omega) only [List.any_cons, List.any_nil, Nat.reduceEqDiff, List.map_cons, List.map_nil, Option.map_some, Option.map_none, List.nil_append, ↓reduceIte, vcu0, vcu1, vcu2, vcu3, vcu4, vcu5, vcu6, vcu7, vcu8, vcu9, vcu10, vcu11, vcu12, vcu13, vcu14, vcu15, vcu16, vcu17, vcu18, vcu19, vcu20, vcu21, vcu22, ↓vcd0, ↓vcd1, ↓vcd2, ↓vcd3, opK_some]
    refine fin_two Try.results34 ⟨.slice none 0 0, ?_, Sub.refl _, .inl ⟨rfl, rfl⟩⟩
    simp -implicitDefEqProofs (disch := omega) only [List.any_cons, List.any_nil, Nat.reduceEqDiff, List.map_cons, List.map_nil, Option.map_some, Option.map_none, List.nil_append, ↓reduceIte, vcu0, vcu1, vcu2, vcu3, vcu4, vcu5, vcu6, vcu7, vcu8, vcu9, vcu10, vcu11, vcu12, vcu13, vcu14, vcu15, vcu16, vcu17, vcu18, vcu19, vcu20, vcu21, vcu22, ↓vcd0, ↓vcd1, ↓vcd2, ↓vcd3]
  obtain ⟨L, rfl, hL⟩ := lgOf_ls h
  obtain ⟨i, rfl⟩ : ∃ n : Nat, i = n := ⟨i.toNat, by omega⟩
  obtain ⟨o, rfl⟩ : ∃ n : Nat, o = n := ⟨o.toNat, by omega⟩
  obtain ⟨w1, w2⟩ := wayV_ls hL (i := i) (o := o) (by omega) (by omega)
  rw [w2, decide_eq_true w1]
  generalize lgOf (L : Int) = lg at *
  have hle := hL.le
  simp -implicitDefEqProofs (disch := omega) only [List.any_cons, List.any_nil, Nat.reduceEqDiff, List.map_cons, List.map_nil, Option.map_some, Option.map_none, List.nil_append, ↓reduceIte, vcu0, vcu1, vcu2, vcu3, vcu4, vcu5, vcu6, vcu7, vcu8, vcu9, vcu10, vcu11, vcu12, vcu13, vcu14, vcu15, vcu16, vcu17, vcu18, vcu19, vcu20, vcu21, vcu22, ↓vcd0, ↓vcd1, ↓vcd2, ↓vcd3, opK_some]
  refine vc_loop_c mixed (by kernel_rfl) [0, 2] (fun m a τ => ∃ s : Nat, m + s = lg ∧ a 9 = .int .i64 (wp L lg o i s : Nat) ∧ a 10 = .int .i64 ((L / 2 ^ (s + 1) : Nat) : Int) ∧ OwnI σ τ (a 8) (tabI s fun s => wp L lg o i (s + 1)) ∧ Sub σ τ) lg ⟨0, by simp, rfl, by simp [fset], .inl ⟨rfl, rfl⟩, Sub.refl _⟩ ?_
  rintro m a τ hc ⟨s, hs, h9, h10, ho, hsub⟩
  simp -implicitDefEqProofs (disch := omega) only [List.any_cons, List.any_nil, Nat.reduceEqDiff, List.map_cons, List.map_nil, Option.map_some, Option.map_none, List.nil_append, ↓reduceIte, vcu0, vcu1, vcu2, vcu3, vcu4, vcu5, vcu6, vcu7, vcu8, vcu9, vcu10, vcu11, vcu12, vcu13, vcu14, vcu15, vcu16, vcu17, vcu18, vcu19, vcu20, vcu21, vcu22, ↓vcd0, ↓vcd1, ↓vcd2, ↓vcd3] at hc
  obtain ⟨h0, h2', -⟩ := hc
  by_cases hlt : s < lg
  · obtain ⟨W, e1, e2, e3, e4, e5⟩ := weight hL o hlt
    rw [e1] at h10
    have hx := wp_lt hL o (show i < L by omega) s
    have hnext : wp L lg o i (s + 1) = 2 * wp L lg o i s % L + bt lg o s := by
      show (2 * wp L lg o i s + bt lg o s) % L = _
      have hb : bt lg o s < 2 := Nat.mod_lt _ (by omega)
      generalize wp L lg o i s = x at *
      generalize bt lg o s = b at *
      rcases hL with ⟨rfl, _⟩ | ⟨rfl, _⟩ | ⟨rfl, _⟩ <;> omega
    have hts := tabI_succ s (fun s => wp L lg o i (s + 1))
    rw [← e4] at hnext
    have hx2 : 2 * wp L lg o i s % L < L := Nat.mod_lt _ (by omega)
    have hb2 : o / W % 2 < 2 := Nat.mod_lt _ (by omega)
    have i1 : ((2 * wp L lg o i s % L : Nat) : Int) = (wp L lg o i s : Int) * 2 % (L : Int) := by rw [Nat.mul_comm]; norm_cast
    have i2 : ((o / W % 2 : Nat) : Int) = (o : Int) / (W : Int) % 2 := by norm_cast
    have hq : 0 ≤ (o : Int) / (W : Int) ∧ (o : Int) / (W : Int) ≤ o := ⟨Int.ediv_nonneg (by omega) (by omega), Int.ediv_le_self _ (by omega)⟩
    have hsum : (wp L lg o i s : Int) * 2 % (L : Int) + (o : Int) / (W : Int) % 2 = ((wp L lg o i (s + 1) : Nat) : Int) := by rw [hnext, Int.natCast_add, i1, i2]
    have i3 : (W : Int) / 2 = ((L / 2 ^ (s + 1 + 1) : Nat) : Int) := by rw [← e5]; omega
    have hlen : (tabI s fun s => wp L lg o i (s + 1)).length = s := tabI_length _ _
    generalize hy : wp L lg o i (s + 1) = y at *
    generalize wp L lg o i s = x at *
    generalize (tabI s fun s => wp L lg o i (s + 1)) = xs at *
    simp -implicitDefEqProofs (disch := omega) only [List.any_cons, List.any_nil, Nat.reduceEqDiff, List.map_cons, List.map_nil, Option.map_some, Option.map_none, List.nil_append, ↓reduceIte, vcu0, vcu1, vcu2, vcu3, vcu4, vcu5, vcu6, vcu7, vcu8, vcu9, vcu10, vcu11, vcu12, vcu13, vcu14, vcu15, vcu16, vcu17, vcu18, vcu19, vcu20, vcu21, vcu22, ↓vcd0, ↓vcd1, ↓vcd2, ↓vcd3, h0, h2', h9, h10, hsum, i3]
    refine r_lit el30 (out := #[.int .i64 y]) (by simp -implicitDefEqProofs (disch := omega) only [List.any_cons, List.any_nil, Nat.reduceEqDiff, List.map_cons, List.map_nil, Option.map_some, Option.map_none, List.nil_append, ↓reduceIte, vcu0, vcu1, vcu2, vcu3, vcu4, vcu5, vcu6, vcu7, vcu8, vcu9, vcu10, vcu11, vcu12, vcu13, vcu14, vcu15, vcu16, vcu17, vcu18, vcu19, vcu20, vcu21, vcu22, ↓vcd0, ↓vcd1, ↓vcd2, ↓vcd3]; kernel_rfl) (by rfl) fun e τ1 n1 s1 v1 => ?_
    refine r_pushO (e := e) (o := 0) (m := 1) (ds := [(y : Int)]) el30 (by omega) sl30 (hsub.trans s1) rfl (by simp -implicitDefEqProofs (disch := omega) only [List.any_cons, List.any_nil, Nat.reduceEqDiff, List.map_cons, List.map_nil, Option.map_some, Option.map_none, List.nil_append, ↓reduceIte, vcu0, vcu1, vcu2, vcu3, vcu4, vcu5, vcu6, vcu7, vcu8, vcu9, vcu10, vcu11, vcu12, vcu13, vcu14, vcu15, vcu16, vcu17, vcu18, vcu19, vcu20, vcu21, vcu22, ↓vcd0, ↓vcd1, ↓vcd2, ↓vcd3]; exact ho.sub s1) (by simp -implicitDefEqProofs (disch := omega) only [List.any_cons, List.any_nil, Nat.reduceEqDiff, List.map_cons, List.map_nil, Option.map_some, Option.map_none, List.nil_append, ↓reduceIte, vcu0, vcu1, vcu2, vcu3, vcu4, vcu5, vcu6, vcu7, vcu8, vcu9, vcu10, vcu11, vcu12, vcu13, vcu14, vcu15, vcu16, vcu17, vcu18, vcu19, vcu20, vcu21, vcu22, ↓vcd0, ↓vcd1, ↓vcd2, ↓vcd3]) (intsAt_own v1) rfl (by omega) fun g τ2 s2 n2 v2 => ?_
    rw [← hts] at v2
    simp -implicitDefEqProofs (disch := omega) only [List.any_cons, List.any_nil, Nat.reduceEqDiff, List.map_cons, List.map_nil, Option.map_some, Option.map_none, List.nil_append, ↓reduceIte, vcu0, vcu1, vcu2, vcu3, vcu4, vcu5, vcu6, vcu7, vcu8, vcu9, vcu10, vcu11, vcu12, vcu13, vcu14, vcu15, vcu16, vcu17, vcu18, vcu19, vcu20, vcu21, vcu22, ↓vcd0, ↓vcd1, ↓vcd2, ↓vcd3, h0, h2', h9, h10, i3]
    refine ⟨⟨trivial, trivial, trivial⟩, m - 1, by omega, s + 1, by omega, by rw [hy], rfl, .inr ⟨g, ?_, v2, n2⟩, s2⟩
    rw [tabI_length, hlen]
  · have e : s = lg := by omega
    subst e
    rw [weight_end hL] at h10
    simp -implicitDefEqProofs (disch := omega) only [List.any_cons, List.any_nil, Nat.reduceEqDiff, List.map_cons, List.map_nil, Option.map_some, Option.map_none, List.nil_append, ↓reduceIte, vcu0, vcu1, vcu2, vcu3, vcu4, vcu5, vcu6, vcu7, vcu8, vcu9, vcu10, vcu11, vcu12, vcu13, vcu14, vcu15, vcu16, vcu17, vcu18, vcu19, vcu20, vcu21, vcu22, ↓vcd0, ↓vcd1, ↓vcd2, ↓vcd3, h0, h2', h9, h10]
    refine fin_two Try.results34 ⟨a 8, ?_, hsub, ho⟩
    simp -implicitDefEqProofs (disch := omega) only [List.any_cons, List.any_nil, Nat.reduceEqDiff, List.map_cons, List.map_nil, Option.map_some, Option.map_none, List.nil_append, ↓reduceIte, vcu0, vcu1, vcu2, vcu3, vcu4, vcu5, vcu6, vcu7, vcu8, vcu9, vcu10, vcu11, vcu12, vcu13, vcu14, vcu15, vcu16, vcu17, vcu18, vcu19, vcu20, vcu21, vcu22, ↓vcd0, ↓vcd1, ↓vcd2, ↓vcd3]

theorem specWay_at (σ : AHeap) (z i o : Int) (hz : InR z) : ACall Try.prog w0 35 [.int .i64 z, .int .i64 i, .int .i64 o] σ fun r σ' => ∃ v, r = .tuple #[v, .bool (decide (WOk z i o))] ∧ Sub σ σ' ∧ OwnI σ σ' v (wayV z i o) := by
  refine acall_go mixed Try.func35 rfl good35 fun pr => ?_
  simp -implicitDefEqProofs (disch := omega) only [List.any_cons, List.any_nil, Nat.reduceEqDiff, List.map_cons, List.map_nil, Option.map_some, Option.map_none, List.nil_append, ↓reduceIte, vcu0, vcu1, vcu2, vcu3, vcu4, vcu5, vcu6, vcu7, vcu8, vcu9, vcu10, vcu11, vcu12, vcu13, vcu14, vcu15, vcu16, vcu17, vcu18, vcu19, vcu20, vcu21, vcu22, ↓vcd0, ↓vcd1, ↓vcd2, ↓vcd3]
  refine r_lit el30 (out := #[]) (by kernel_rfl) (by kernel_rfl) fun e0 τ n0 s0 v0 => ?_
  simp -implicitDefEqProofs (disch := omega) only [List.any_cons, List.any_nil, Nat.reduceEqDiff, List.map_cons, List.map_nil, Option.map_some, Option.map_none, List.nil_append, ↓reduceIte, vcu0, vcu1, vcu2, vcu3, vcu4, vcu5, vcu6, vcu7, vcu8, vcu9, vcu10, vcu11, vcu12, vcu13, vcu14, vcu15, vcu16, vcu17, vcu18, vcu19, vcu20, vcu21, vcu22, ↓vcd0, ↓vcd1, ↓vcd2, ↓vcd3]
  refine (l3Lines_at τ _).mono ?_
  rintro r _ ⟨rfl, rfl⟩
  rename_i τ
  have no : ¬ WOk z i o → wayV z i o = [] ∧ decide (WOk z i o) = false := fun h => ⟨by unfold wayV; rw [if_neg h], decide_eq_false h⟩
  by_cases h : lgOf z = 0
  · obtain ⟨n1, n2⟩ := no fun hw => hw.1 h
    have e : decide (lgOf z ≠ 0) = false := by simp [h]
    rw [n1, n2, e]
    simp -implicitDefEqProofs (disch := omega) only [List.any_cons, List.any_nil, Nat.reduceEqDiff, List.map_cons, List.map_nil, Option.map_some, Option.map_none, List.nil_append, ↓reduceIte, vcu0, vcu1, vcu2, vcu3, vcu4, vcu5, vcu6, vcu7, vcu8, vcu9, vcu10, vcu11, vcu12, vcu13, vcu14, vcu15, vcu16, vcu17, vcu18, vcu19, vcu20, vcu21, vcu22, ↓vcd0, ↓vcd1, ↓vcd2, ↓vcd3, opK_some, Bool.not_false]
    refine fin_two Try.results35 ⟨.slice (some ⟨e0, 0, none⟩) 0 1, ?_, s0, .inr ⟨e0, rfl, v0, n0⟩⟩
    simp -implicitDefEqProofs (disch := omega) only [List.any_cons, List.any_nil, Nat.reduceEqDiff, List.map_cons, List.map_nil, Option.map_some, Option.map_none, List.nil_append, ↓reduceIte, vcu0, vcu1, vcu2, vcu3, vcu4, vcu5, vcu6, vcu7, vcu8, vcu9, vcu10, vcu11, vcu12, vcu13, vcu14, vcu15, vcu16, vcu17, vcu18, vcu19, vcu20, vcu21, vcu22, ↓vcd0, ↓vcd1, ↓vcd2, ↓vcd3]
  have e : decide (lgOf z ≠ 0) = true := by simp [h]
  obtain ⟨L, rfl, hL⟩ := lgOf_ls h
  have hle := hL.le
  rw [e]
  simp -implicitDefEqProofs (disch := omega) only [List.any_cons, List.any_nil, Nat.reduceEqDiff, List.map_cons, List.map_nil, Option.map_some, Option.map_none, List.nil_append, ↓reduceIte, vcu0, vcu1, vcu2, vcu3, vcu4, vcu5, vcu6, vcu7, vcu8, vcu9, vcu10, vcu11, vcu12, vcu13, vcu14, vcu15, vcu16, vcu17, vcu18, vcu19, vcu20, vcu21, vcu22, ↓vcd0, ↓vcd1, ↓vcd2, ↓vcd3, opK_some, Bool.not_true]
  refine (in_calls τ i 0 _).mono ?_
  rintro r _ ⟨rfl, rfl⟩
  rename_i τ
  by_cases hi : 0 ≤ i ∧ i ≤ (L : Int) - 1
  case neg =>
    obtain ⟨n1, n2⟩ := no fun hw => by have := hw.2; omega
    rw [n1, n2, decide_eq_false hi]
    simp -implicitDefEqProofs (disch := omega) only [List.any_cons, List.any_nil, Nat.reduceEqDiff, List.map_cons, List.map_nil, Option.map_some, Option.map_none, List.nil_append, ↓reduceIte, vcu0, vcu1, vcu2, vcu3, vcu4, vcu5, vcu6, vcu7, vcu8, vcu9, vcu10, vcu11, vcu12, vcu13, vcu14, vcu15, vcu16, vcu17, vcu18, vcu19, vcu20, vcu21, vcu22, ↓vcd0, ↓vcd1, ↓vcd2, ↓vcd3, opK_some, Bool.not_false]
    refine fin_two Try.results35 ⟨.slice (some ⟨e0, 0, none⟩) 0 1, ?_, s0, .inr ⟨e0, rfl, v0, n0⟩⟩
    simp -implicitDefEqProofs (disch := omega) only [List.any_cons, List.any_nil, Nat.reduceEqDiff, List.map_cons, List.map_nil, Option.map_some, Option.map_none, List.nil_append, ↓reduceIte, vcu0, vcu1, vcu2, vcu3, vcu4, vcu5, vcu6, vcu7, vcu8, vcu9, vcu10, vcu11, vcu12, vcu13, vcu14, vcu15, vcu16, vcu17, vcu18, vcu19, vcu20, vcu21, vcu22, ↓vcd0, ↓vcd1, ↓vcd2, ↓vcd3]
  rw [decide_eq_true hi]
  simp -implicitDefEqProofs (disch := omega) only [List.any_cons, List.any_nil, Nat.reduceEqDiff, List.map_cons, List.map_nil, Option.map_some, Option.map_none, List.nil_append, ↓reduceIte, vcu0, vcu1, vcu2, vcu3, vcu4, vcu5, vcu6, vcu7, vcu8, vcu9, vcu10, vcu11, vcu12, vcu13, vcu14, vcu15, vcu16, vcu17, vcu18, vcu19, vcu20, vcu21, vcu22, ↓vcd0, ↓vcd1, ↓vcd2, ↓vcd3, opK_some, Bool.not_true]
  refine (in_calls τ o 0 _).mono ?_
  rintro r _ ⟨rfl, rfl⟩
  rename_i τ
  by_cases ho : 0 ≤ o ∧ o ≤ (L : Int) - 1
  case neg =>
    obtain ⟨n1, n2⟩ := no fun hw => by have := hw.2; omega
    rw [n1, n2, decide_eq_false ho]
    simp -implicitDefEqProofs (disch := omega) only [List.any_cons, List.any_nil, Nat.reduceEqDiff, List.map_cons, List.map_nil, Option.map_some, Option.map_none, List.nil_append, ↓reduceIte, vcu0, vcu1, vcu2, vcu3, vcu4, vcu5, vcu6, vcu7, vcu8, vcu9, vcu10, vcu11, vcu12, vcu13, vcu14, vcu15, vcu16, vcu17, vcu18, vcu19, vcu20, vcu21, vcu22, ↓vcd0, ↓vcd1, ↓vcd2, ↓vcd3, opK_some, Bool.not_false]
    refine fin_two Try.results35 ⟨.slice (some ⟨e0, 0, none⟩) 0 1, ?_, s0, .inr ⟨e0, rfl, v0, n0⟩⟩
    simp -implicitDefEqProofs (disch := omega) only [List.any_cons, List.any_nil, Nat.reduceEqDiff, List.map_cons, List.map_nil, Option.map_some, Option.map_none, List.nil_append, ↓reduceIte, vcu0, vcu1, vcu2, vcu3, vcu4, vcu5, vcu6, vcu7, vcu8, vcu9, vcu10, vcu11, vcu12, vcu13, vcu14, vcu15, vcu16, vcu17, vcu18, vcu19, vcu20, vcu21, vcu22, ↓vcd0, ↓vcd1, ↓vcd2, ↓vcd3]
  rw [decide_eq_true ho]
  obtain ⟨i, rfl⟩ : ∃ n : Nat, i = n := ⟨i.toNat, by omega⟩
  obtain ⟨o, rfl⟩ : ∃ n : Nat, o = n := ⟨o.toNat, by omega⟩
  obtain ⟨w1, w2⟩ := wayV_ls hL (i := i) (o := o) (by omega) (by omega)
  rw [w2, decide_eq_true w1]
  have hlog := l3Log_at (w0 := w0) τ L _ hL
  generalize lgOf (L : Int) = lg at *
  simp -implicitDefEqProofs (disch := omega) only [List.any_cons, List.any_nil, Nat.reduceEqDiff, List.map_cons, List.map_nil, Option.map_some, Option.map_none, List.nil_append, ↓reduceIte, vcu0, vcu1, vcu2, vcu3, vcu4, vcu5, vcu6, vcu7, vcu8, vcu9, vcu10, vcu11, vcu12, vcu13, vcu14, vcu15, vcu16, vcu17, vcu18, vcu19, vcu20, vcu21, vcu22, ↓vcd0, ↓vcd1, ↓vcd2, ↓vcd3, opK_some, Bool.not_true]
  refine hlog.mono ?_
  rintro r _ ⟨rfl, rfl⟩
  simp -implicitDefEqProofs (disch := omega) only [List.any_cons, List.any_nil, Nat.reduceEqDiff, List.map_cons, List.map_nil, Option.map_some, Option.map_none, List.nil_append, ↓reduceIte, vcu0, vcu1, vcu2, vcu3, vcu4, vcu5, vcu6, vcu7, vcu8, vcu9, vcu10, vcu11, vcu12, vcu13, vcu14, vcu15, vcu16, vcu17, vcu18, vcu19, vcu20, vcu21, vcu22, ↓vcd0, ↓vcd1, ↓vcd2, ↓vcd3, opK_some]
  rename_i τ
  refine vc_loop_c mixed (by kernel_rfl) [0, 2] (fun m a τ => ∃ s : Nat, m + s = lg ∧ a 9 = .int .i64 (wp L lg o i s : Nat) ∧ a 10 = .int .i64 ((lg : Int) - 1 - s) ∧ OwnI σ τ (a 8) (tabI s fun s => wp L lg o i (s + 1)) ∧ Sub σ τ) lg ⟨0, by simp, rfl, by simp [fset], .inr ⟨e0, rfl, v0, n0⟩, s0⟩ ?_
  rintro m a τ hc ⟨s, hs, h9, h10, ho', hsub⟩
  simp -implicitDefEqProofs (disch := omega) only [List.any_cons, List.any_nil, Nat.reduceEqDiff, List.map_cons, List.map_nil, Option.map_some, Option.map_none, List.nil_append, ↓reduceIte, vcu0, vcu1, vcu2, vcu3, vcu4, vcu5, vcu6, vcu7, vcu8, vcu9, vcu10, vcu11, vcu12, vcu13, vcu14, vcu15, vcu16, vcu17, vcu18, vcu19, vcu20, vcu21, vcu22, ↓vcd0, ↓vcd1, ↓vcd2, ↓vcd3] at hc
  obtain ⟨h0, h2', -⟩ := hc
  by_cases hlt : s < lg
  · have hx := wp_lt hL o (show i < L by omega) s
    have hts := tabI_succ s (fun s => wp L lg o i (s + 1))
    have hex : (lg : Int) - 1 - s = ((lg - 1 - s : Nat) : Int) := by omega
    rw [hex] at h10
    have hshr : ∀ {t : TypeId}, abin Try.prog t .shr (.int .i64 (o : Int)) (.int .i64 ((lg - 1 - s : Nat) : Int)) = some (.int .i64 ((o / 2 ^ (lg - 1 - s) : Nat) : Int)) := abin_shrN' (by omega)
    have hb : bt lg o s < 2 := Nat.mod_lt _ (by omega)
    have hbt : ((o / 2 ^ (lg - 1 - s) : Nat) : Int) % 2 = (bt lg o s : Nat) := by unfold bt; omega
    have hnext : (2 * (wp L lg o i s : Int) + (bt lg o s : Nat)) % (L : Int) = ((wp L lg o i (s + 1) : Nat) : Int) := by
      show _ = (((2 * wp L lg o i s + bt lg o s) % L : Nat) : Int); push_cast; rfl
    have hexp : ((lg - 1 - s : Nat) : Int) - 1 = (lg : Int) - 1 - ((s + 1 : Nat) : Int) := by omega
    have hlen : (tabI s fun s => wp L lg o i (s + 1)).length = s := tabI_length _ _
    have hdv : o / 2 ^ (lg - 1 - s) ≤ o := Nat.div_le_self _ _
    generalize o / 2 ^ (lg - 1 - s) = od at *
    generalize hy : wp L lg o i (s + 1) = y at *
    generalize wp L lg o i s = x at *
    generalize bt lg o s = b at *
    generalize (tabI s fun s => wp L lg o i (s + 1)) = xs at *
    simp -implicitDefEqProofs (disch := omega) only [List.any_cons, List.any_nil, Nat.reduceEqDiff, List.map_cons, List.map_nil, Option.map_some, Option.map_none, List.nil_append, ↓reduceIte, vcu0, vcu1, vcu2, vcu3, vcu4, vcu5, vcu6, vcu7, vcu8, vcu9, vcu10, vcu11, vcu12, vcu13, vcu14, vcu15, vcu16, vcu17, vcu18, vcu19, vcu20, vcu21, vcu22, ↓vcd0, ↓vcd1, ↓vcd2, ↓vcd3, h0, h2', h9, h10, hshr, hbt, hnext]
    refine r_lit el30 (out := #[.int .i64 y]) (by simp -implicitDefEqProofs (disch := omega) only [List.any_cons, List.any_nil, Nat.reduceEqDiff, List.map_cons, List.map_nil, Option.map_some, Option.map_none, List.nil_append, ↓reduceIte, vcu0, vcu1, vcu2, vcu3, vcu4, vcu5, vcu6, vcu7, vcu8, vcu9, vcu10, vcu11, vcu12, vcu13, vcu14, vcu15, vcu16, vcu17, vcu18, vcu19, vcu20, vcu21, vcu22, ↓vcd0, ↓vcd1, ↓vcd2, ↓vcd3]; kernel_rfl) (by rfl) fun e τ1 n1 s1 v1 => ?_
    refine r_pushO (e := e) (o := 0) (m := 1) (ds := [(y : Int)]) el30 (by omega) sl30 (hsub.trans s1) rfl (by simp -implicitDefEqProofs (disch := omega) only [List.any_cons, List.any_nil, Nat.reduceEqDiff, List.map_cons, List.map_nil, Option.map_some, Option.map_none, List.nil_append, ↓reduceIte, vcu0, vcu1, vcu2, vcu3, vcu4, vcu5, vcu6, vcu7, vcu8, vcu9, vcu10, vcu11, vcu12, vcu13, vcu14, vcu15, vcu16, vcu17, vcu18, vcu19, vcu20, vcu21, vcu22, ↓vcd0, ↓vcd1, ↓vcd2, ↓vcd3]; exact ho'.sub s1) (by simp -implicitDefEqProofs (disch := omega) only [List.any_cons, List.any_nil, Nat.reduceEqDiff, List.map_cons, List.map_nil, Option.map_some, Option.map_none, List.nil_append, ↓reduceIte, vcu0, vcu1, vcu2, vcu3, vcu4, vcu5, vcu6, vcu7, vcu8, vcu9, vcu10, vcu11, vcu12, vcu13, vcu14, vcu15, vcu16, vcu17, vcu18, vcu19, vcu20, vcu21, vcu22, ↓vcd0, ↓vcd1, ↓vcd2, ↓vcd3]) (intsAt_own v1) rfl (by omega) fun g τ2 s2 n2 v2 => ?_
    rw [← hts] at v2
    simp -implicitDefEqProofs (disch := omega) only [List.any_cons, List.any_nil, Nat.reduceEqDiff, List.map_cons, List.map_nil, Option.map_some, Option.map_none, List.nil_append, ↓reduceIte, vcu0, vcu1, vcu2, vcu3, vcu4, vcu5, vcu6, vcu7, vcu8, vcu9, vcu10, vcu11, vcu12, vcu13, vcu14, vcu15, vcu16, vcu17, vcu18, vcu19, vcu20, vcu21, vcu22, ↓vcd0, ↓vcd1, ↓vcd2, ↓vcd3, h0, h2', h9, h10, hexp]
    refine ⟨⟨trivial, trivial, trivial⟩, m - 1, by omega, s + 1, by omega, by rw [hy], rfl, .inr ⟨g, ?_, v2, n2⟩, s2⟩
    rw [tabI_length, hlen]
  · have e : s = lg := by omega
    subst e
    simp -implicitDefEqProofs (disch := omega) only [List.any_cons, List.any_nil, Nat.reduceEqDiff, List.map_cons, List.map_nil, Option.map_some, Option.map_none, List.nil_append, ↓reduceIte, vcu0, vcu1, vcu2, vcu3, vcu4, vcu5, vcu6, vcu7, vcu8, vcu9, vcu10, vcu11, vcu12, vcu13, vcu14, vcu15, vcu16, vcu17, vcu18, vcu19, vcu20, vcu21, vcu22, ↓vcd0, ↓vcd1, ↓vcd2, ↓vcd3, h0, h2', h9, h10]
    refine fin_two Try.results35 ⟨a 8, ?_, hsub, ho'⟩
    simp -implicitDefEqProofs (disch := omega) only [List.any_cons, List.any_nil, Nat.reduceEqDiff, List.map_cons, List.map_nil, Option.map_some, Option.map_none, List.nil_append, ↓reduceIte, vcu0, vcu1, vcu2, vcu3, vcu4, vcu5, vcu6, vcu7, vcu8, vcu9, vcu10, vcu11, vcu12, vcu13, vcu14, vcu15, vcu16, vcu17, vcu18, vcu19, vcu20, vcu21, vcu22, ↓vcd0, ↓vcd1, ↓vcd2, ↓vcd3]
end Go.Proofs.Ytgieeafdgdkkcaa

/- The network of merging, of the reference: the sorting of powers of 2, and what is left of it. -/
import Derived.Test.YtnkpoflhdfchjaaNp
set_option linter.unusedSimpArgs false
set_option linter.unusedVariables false
namespace Go.Proofs.Ytnkpoflhdfchjaa
open Go Go.Abs Go.RowKit
variable {w0 : World}

def bt : Nat → Int → Int → List (Int × Int)
  | 0, _, _ => []
  | f + 1, first, many => if many < 2 then [] else bt f first (many / 2) ++ bt f (first + many / 2) (many / 2) ++ mg 3 first many 1
theorem bt_length : ∀ (f : Nat) (first many : Int), 0 ≤ many → many ≤ 8 → (bt f first many).length + 57 ≤ 57 * 2 ^ f
  | 0, _, _, _, _ => by simp [bt]
  | f + 1, first, many, h0, h8 => by
    have hp : 2 ^ (f + 1) = 2 * 2 ^ f := by rw [Nat.pow_succ]; omega
    have hpos : 1 ≤ 2 ^ f := Nat.one_le_two_pow
    unfold bt
    split
    · simp; omega
    · have a1 := bt_length f first (many / 2) (by omega) (by omega)
      have a2 := bt_length f (first + many / 2) (many / 2) (by omega) (by omega)
      have a3 := mg_length 3 first many 1 h0 h8 (by omega)
      rw [List.length_append, List.length_append]
      omega

theorem batcher_at : ∀ (f : Nat) (σ : AHeap) (first many : Int), 0 ≤ first → first ≤ 600 - 10 * (f : Int) → 0 ≤ many → (many = 8 ∧ f = 4 ∨ many = 4 ∧ f = 3 ∨ many = 2 ∧ f = 2 ∨ many = 1 ∧ f = 1) →
    ACall Try.prog w0 92 [.int .i64 first, .int .i64 many] σ fun r σ' => Sub σ σ' ∧ RowP σ σ' r (bt f first many) := by
  intro f
  induction f with
  | zero => intros; omega
  | succ f ih =>
    intro σ first many hf0 hf1 hm0 hf
    refine acall_go mixed Try.func92 rfl good92 fun pr => ?_
    unfold bt
    by_cases h1 : many < 2
    · rw [if_pos h1]
      simp -implicitDefEqProofs (disch := omega) only [List.any_cons, List.any_nil, Nat.reduceEqDiff, List.map_cons, List.map_nil, Option.map_some, Option.map_none, List.nil_append, ↓reduceIte, vcu0, vcu1, vcu2, vcu3, vcu4, vcu5, vcu6, vcu7, vcu8, vcu9, vcu10, vcu11, vcu12, vcu13, vcu14, vcu15, vcu16, vcu17, vcu18, vcu19, vcu20, vcu21, vcu22, vcu23, vcu24, vcu25, vcu26, ↓vcd0, ↓vcd1, ↓vcd2, ↓vcd3]
      refine r_lit el23 (out := #[]) (by kernel_rfl) (by kernel_rfl) fun e τ n0 s0 v0 => ?_
      simp -implicitDefEqProofs (disch := omega) only [List.any_cons, List.any_nil, Nat.reduceEqDiff, List.map_cons, List.map_nil, Option.map_some, Option.map_none, List.nil_append, ↓reduceIte, vcu0, vcu1, vcu2, vcu3, vcu4, vcu5, vcu6, vcu7, vcu8, vcu9, vcu10, vcu11, vcu12, vcu13, vcu14, vcu15, vcu16, vcu17, vcu18, vcu19, vcu20, vcu21, vcu22, vcu23, vcu24, vcu25, vcu26, ↓vcd0, ↓vcd1, ↓vcd2, ↓vcd3]
      refine fin_one Try.results92 ⟨s0, e, ?_, v0, n0⟩
      simp -implicitDefEqProofs (disch := omega) only [List.any_cons, List.any_nil, Nat.reduceEqDiff, List.map_cons, List.map_nil, Option.map_some, Option.map_none, List.nil_append, ↓reduceIte, vcu0, vcu1, vcu2, vcu3, vcu4, vcu5, vcu6, vcu7, vcu8, vcu9, vcu10, vcu11, vcu12, vcu13, vcu14, vcu15, vcu16, vcu17, vcu18, vcu19, vcu20, vcu21, vcu22, vcu23, vcu24, vcu25, vcu26, ↓vcd0, ↓vcd1, ↓vcd2, ↓vcd3]
      rfl
    rw [if_neg h1]
    have hp : 2 ^ f ≤ 2 ^ 3 := Nat.pow_le_pow_right (by omega) (by omega)
    have l1 := bt_length f first (many / 2) (by omega) (by omega)
    have l2 := bt_length f (first + many / 2) (many / 2) (by omega) (by omega)
    have l3 := mg_length 3 first many 1 hm0 (by omega) (by omega)
    simp -implicitDefEqProofs (disch := omega) only [List.any_cons, List.any_nil, Nat.reduceEqDiff, List.map_cons, List.map_nil, Option.map_some, Option.map_none, List.nil_append, ↓reduceIte, vcu0, vcu1, vcu2, vcu3, vcu4, vcu5, vcu6, vcu7, vcu8, vcu9, vcu10, vcu11, vcu12, vcu13, vcu14, vcu15, vcu16, vcu17, vcu18, vcu19, vcu20, vcu21, vcu22, vcu23, vcu24, vcu25, vcu26, ↓vcd0, ↓vcd1, ↓vcd2, ↓vcd3]
    refine (ih σ first (many / 2) hf0 (by omega) (by omega) (by omega)).mono ?_
    rintro _ τ1 ⟨s1, g1, rfl, v1, n1⟩
    simp -implicitDefEqProofs (disch := omega) only [List.any_cons, List.any_nil, Nat.reduceEqDiff, List.map_cons, List.map_nil, Option.map_some, Option.map_none, List.nil_append, ↓reduceIte, vcu0, vcu1, vcu2, vcu3, vcu4, vcu5, vcu6, vcu7, vcu8, vcu9, vcu10, vcu11, vcu12, vcu13, vcu14, vcu15, vcu16, vcu17, vcu18, vcu19, vcu20, vcu21, vcu22, vcu23, vcu24, vcu25, vcu26, ↓vcd0, ↓vcd1, ↓vcd2, ↓vcd3, opK_some]
    refine (ih τ1 (first + many / 2) (many / 2) (by omega) (by omega) (by omega) (by omega)).mono ?_
    rintro _ τ2 ⟨s2, g2, rfl, v2, n2⟩
    simp -implicitDefEqProofs (disch := omega) only [List.any_cons, List.any_nil, Nat.reduceEqDiff, List.map_cons, List.map_nil, Option.map_some, Option.map_none, List.nil_append, ↓reduceIte, vcu0, vcu1, vcu2, vcu3, vcu4, vcu5, vcu6, vcu7, vcu8, vcu9, vcu10, vcu11, vcu12, vcu13, vcu14, vcu15, vcu16, vcu17, vcu18, vcu19, vcu20, vcu21, vcu22, vcu23, vcu24, vcu25, vcu26, ↓vcd0, ↓vcd1, ↓vcd2, ↓vcd3, opK_some]
    refine r_pushP (β := σ) (e := g2) (o := 0) (m := (bt f (first + many / 2) (many / 2)).length) (cs := bt f first (many / 2)) (ds := bt f (first + many / 2) (many / 2)) el23 (by omega) sl23 (s1.trans s2) rfl (.inr ⟨g1, by simp -implicitDefEqProofs (disch := omega) only [List.any_cons, List.any_nil, Nat.reduceEqDiff, List.map_cons, List.map_nil, Option.map_some, Option.map_none, List.nil_append, ↓reduceIte, vcu0, vcu1, vcu2, vcu3, vcu4, vcu5, vcu6, vcu7, vcu8, vcu9, vcu10, vcu11, vcu12, vcu13, vcu14, vcu15, vcu16, vcu17, vcu18, vcu19, vcu20, vcu21, vcu22, vcu23, vcu24, vcu25, vcu26, ↓vcd0, ↓vcd1, ↓vcd2, ↓vcd3], s2 _ _ v1, n1⟩) (by simp -implicitDefEqProofs (disch := omega) only [List.any_cons, List.any_nil, Nat.reduceEqDiff, List.map_cons, List.map_nil, Option.map_some, Option.map_none, List.nil_append, ↓reduceIte, vcu0, vcu1, vcu2, vcu3, vcu4, vcu5, vcu6, vcu7, vcu8, vcu9, vcu10, vcu11, vcu12, vcu13, vcu14, vcu15, vcu16, vcu17, vcu18, vcu19, vcu20, vcu21, vcu22, vcu23, vcu24, vcu25, vcu26, ↓vcd0, ↓vcd1, ↓vcd2, ↓vcd3]) (pairsAt_own v2) rfl (by omega) fun g3 τ3 s3 n3 v3 => ?_
    simp -implicitDefEqProofs (disch := omega) only [List.any_cons, List.any_nil, Nat.reduceEqDiff, List.map_cons, List.map_nil, Option.map_some, Option.map_none, List.nil_append, ↓reduceIte, vcu0, vcu1, vcu2, vcu3, vcu4, vcu5, vcu6, vcu7, vcu8, vcu9, vcu10, vcu11, vcu12, vcu13, vcu14, vcu15, vcu16, vcu17, vcu18, vcu19, vcu20, vcu21, vcu22, vcu23, vcu24, vcu25, vcu26, ↓vcd0, ↓vcd1, ↓vcd2, ↓vcd3]
    refine (merge_at 3 τ3 first many 1 hf0 (by omega) hm0 (by omega) (by omega)).mono ?_
    rintro _ τ4 ⟨s4, g4, rfl, v4, n4⟩
    simp -implicitDefEqProofs (disch := omega) only [List.any_cons, List.any_nil, Nat.reduceEqDiff, List.map_cons, List.map_nil, Option.map_some, Option.map_none, List.nil_append, ↓reduceIte, vcu0, vcu1, vcu2, vcu3, vcu4, vcu5, vcu6, vcu7, vcu8, vcu9, vcu10, vcu11, vcu12, vcu13, vcu14, vcu15, vcu16, vcu17, vcu18, vcu19, vcu20, vcu21, vcu22, vcu23, vcu24, vcu25, vcu26, ↓vcd0, ↓vcd1, ↓vcd2, ↓vcd3, opK_some]
    refine r_pushP (β := σ) (e := g4) (o := 0) (m := (mg 3 first many 1).length) (cs := bt f first (many / 2) ++ bt f (first + many / 2) (many / 2)) (ds := mg 3 first many 1) el23 (by omega) sl23 (s3.trans s4) rfl (.inr ⟨g3, by simp -implicitDefEqProofs (disch := omega) only [List.any_cons, List.any_nil, Nat.reduceEqDiff, List.map_cons, List.map_nil, Option.map_some, Option.map_none, List.nil_append, ↓reduceIte, vcu0, vcu1, vcu2, vcu3, vcu4, vcu5, vcu6, vcu7, vcu8, vcu9, vcu10, vcu11, vcu12, vcu13, vcu14, vcu15, vcu16, vcu17, vcu18, vcu19, vcu20, vcu21, vcu22, vcu23, vcu24, vcu25, vcu26, ↓vcd0, ↓vcd1, ↓vcd2, ↓vcd3, List.length_append], s4 _ _ v3, n3⟩) (by simp -implicitDefEqProofs (disch := omega) only [List.any_cons, List.any_nil, Nat.reduceEqDiff, List.map_cons, List.map_nil, Option.map_some, Option.map_none, List.nil_append, ↓reduceIte, vcu0, vcu1, vcu2, vcu3, vcu4, vcu5, vcu6, vcu7, vcu8, vcu9, vcu10, vcu11, vcu12, vcu13, vcu14, vcu15, vcu16, vcu17, vcu18, vcu19, vcu20, vcu21, vcu22, vcu23, vcu24, vcu25, vcu26, ↓vcd0, ↓vcd1, ↓vcd2, ↓vcd3]) (pairsAt_own v4) rfl (by rw [List.length_append]; omega) fun g5 τ5 s5 n5 v5 => ?_
    simp -implicitDefEqProofs (disch := omega) only [List.any_cons, List.any_nil, Nat.reduceEqDiff, List.map_cons, List.map_nil, Option.map_some, Option.map_none, List.nil_append, ↓reduceIte, vcu0, vcu1, vcu2, vcu3, vcu4, vcu5, vcu6, vcu7, vcu8, vcu9, vcu10, vcu11, vcu12, vcu13, vcu14, vcu15, vcu16, vcu17, vcu18, vcu19, vcu20, vcu21, vcu22, vcu23, vcu24, vcu25, vcu26, ↓vcd0, ↓vcd1, ↓vcd2, ↓vcd3]
    refine fin_one Try.results92 ⟨s5, g5, ?_, v5, n5⟩
    simp -implicitDefEqProofs (disch := omega) only [List.any_cons, List.any_nil, Nat.reduceEqDiff, List.map_cons, List.map_nil, Option.map_some, Option.map_none, List.nil_append, ↓reduceIte, vcu0, vcu1, vcu2, vcu3, vcu4, vcu5, vcu6, vcu7, vcu8, vcu9, vcu10, vcu11, vcu12, vcu13, vcu14, vcu15, vcu16, vcu17, vcu18, vcu19, vcu20, vcu21, vcu22, vcu23, vcu24, vcu25, vcu26, ↓vcd0, ↓vcd1, ↓vcd2, ↓vcd3, List.length_append]

def btv (lines : Int) : List (Int × Int) := if lines ≤ 2 then bt 2 0 2 else if lines ≤ 4 then bt 3 0 4 else bt 4 0 8
theorem btv_length (lines : Int) : (btv lines).length ≤ 1000 := by
  have a1 := bt_length 2 0 2 (by omega) (by omega)
  have a2 := bt_length 3 0 4 (by omega) (by omega)
  have a3 := bt_length 4 0 8 (by omega) (by omega)
  unfold btv
  split
  · omega
  · split <;> omega
def mrgV (lines : Int) : List (Int × Int) := if Six lines then (btv lines).filter (fun c => decide (c.2 < lines)) else []

theorem specMrg_at (σ : AHeap) (lines : Int) (hr : InR lines) : ACall Try.prog w0 60 [.int .i64 lines] σ fun r σ' => Sub σ σ' ∧ RowP σ σ' r (mrgV lines) := by
  unfold mrgV
  refine acall_go mixed Try.func60 rfl good60 fun pr => ?_
  simp -implicitDefEqProofs (disch := omega) only [List.any_cons, List.any_nil, Nat.reduceEqDiff, List.map_cons, List.map_nil, Option.map_some, Option.map_none, List.nil_append, ↓reduceIte, vcu0, vcu1, vcu2, vcu3, vcu4, vcu5, vcu6, vcu7, vcu8, vcu9, vcu10, vcu11, vcu12, vcu13, vcu14, vcu15, vcu16, vcu17, vcu18, vcu19, vcu20, vcu21, vcu22, vcu23, vcu24, vcu25, vcu26, ↓vcd0, ↓vcd1, ↓vcd2, ↓vcd3]
  refine r_lit el23 (out := #[]) (by kernel_rfl) (by kernel_rfl) fun e0 τ0 n0 s0 v0 => ?_
  simp -implicitDefEqProofs (disch := omega) only [List.any_cons, List.any_nil, Nat.reduceEqDiff, List.map_cons, List.map_nil, Option.map_some, Option.map_none, List.nil_append, ↓reduceIte, vcu0, vcu1, vcu2, vcu3, vcu4, vcu5, vcu6, vcu7, vcu8, vcu9, vcu10, vcu11, vcu12, vcu13, vcu14, vcu15, vcu16, vcu17, vcu18, vcu19, vcu20, vcu21, vcu22, vcu23, vcu24, vcu25, vcu26, ↓vcd0, ↓vcd1, ↓vcd2, ↓vcd3]
  refine (in_calls _ _ _ _).mono ?_
  rintro r _ ⟨rfl, rfl⟩
  rename_i τ0
  by_cases hS : Six lines
  · rw [if_pos hS]
    unfold Six at hS
    rw [decide_eq_true hS]
    simp -implicitDefEqProofs (disch := omega) only [List.any_cons, List.any_nil, Nat.reduceEqDiff, List.map_cons, List.map_nil, Option.map_some, Option.map_none, List.nil_append, ↓reduceIte, vcu0, vcu1, vcu2, vcu3, vcu4, vcu5, vcu6, vcu7, vcu8, vcu9, vcu10, vcu11, vcu12, vcu13, vcu14, vcu15, vcu16, vcu17, vcu18, vcu19, vcu20, vcu21, vcu22, vcu23, vcu24, vcu25, vcu26, ↓vcd0, ↓vcd1, ↓vcd2, ↓vcd3, opK_some]
    refine (batcher_at 4 τ0 0 8 (by omega) (by omega) (by omega) (by omega)).mono ?_
    rintro _ τ1 ⟨s1, g1, rfl, v1, n1⟩
    have hbl := btv_length lines
    have hb : lines ≤ 2 ∨ (2 < lines ∧ lines ≤ 4) ∨ 4 < lines := by omega
    rcases hb with hb | hb | hb
    case' inl =>
      simp -implicitDefEqProofs (disch := omega) only [List.any_cons, List.any_nil, Nat.reduceEqDiff, List.map_cons, List.map_nil, Option.map_some, Option.map_none, List.nil_append, ↓reduceIte, vcu0, vcu1, vcu2, vcu3, vcu4, vcu5, vcu6, vcu7, vcu8, vcu9, vcu10, vcu11, vcu12, vcu13, vcu14, vcu15, vcu16, vcu17, vcu18, vcu19, vcu20, vcu21, vcu22, vcu23, vcu24, vcu25, vcu26, ↓vcd0, ↓vcd1, ↓vcd2, ↓vcd3, opK_some]
      refine (batcher_at 3 τ1 0 4 (by omega) (by omega) (by omega) (by omega)).mono ?_
      rintro _ τ3 ⟨s3, g3, rfl, v3, n3⟩
      simp -implicitDefEqProofs (disch := omega) only [List.any_cons, List.any_nil, Nat.reduceEqDiff, List.map_cons, List.map_nil, Option.map_some, Option.map_none, List.nil_append, ↓reduceIte, vcu0, vcu1, vcu2, vcu3, vcu4, vcu5, vcu6, vcu7, vcu8, vcu9, vcu10, vcu11, vcu12, vcu13, vcu14, vcu15, vcu16, vcu17, vcu18, vcu19, vcu20, vcu21, vcu22, vcu23, vcu24, vcu25, vcu26, ↓vcd0, ↓vcd1, ↓vcd2, ↓vcd3, opK_some]
      refine (batcher_at 2 τ3 0 2 (by omega) (by omega) (by omega) (by omega)).mono ?_
      rintro _ τ2 ⟨s4, g2, rfl, v2, n2⟩
      have s2 : Sub τ0 τ2 := (s1.trans s3).trans s4
      have hgn : σ g2 = none := free_sub ((s0.trans s1).trans s3) n2
      have hne : e0 ≠ g2 := ne_of' (free_sub (s1.trans s3) n2) v0
      clear s3 s4 v3 n3 v1 n1 s1 n2
      have e9 : bt 2 0 2 = btv lines := by unfold btv; rw [if_pos hb]
    case' inr.inl =>
      simp -implicitDefEqProofs (disch := omega) only [List.any_cons, List.any_nil, Nat.reduceEqDiff, List.map_cons, List.map_nil, Option.map_some, Option.map_none, List.nil_append, ↓reduceIte, vcu0, vcu1, vcu2, vcu3, vcu4, vcu5, vcu6, vcu7, vcu8, vcu9, vcu10, vcu11, vcu12, vcu13, vcu14, vcu15, vcu16, vcu17, vcu18, vcu19, vcu20, vcu21, vcu22, vcu23, vcu24, vcu25, vcu26, ↓vcd0, ↓vcd1, ↓vcd2, ↓vcd3, opK_some]
      refine (batcher_at 3 τ1 0 4 (by omega) (by omega) (by omega) (by omega)).mono ?_
      rintro _ τ2 ⟨s3, g2, rfl, v2, n2⟩
      have s2 : Sub τ0 τ2 := s1.trans s3
      have hgn : σ g2 = none := free_sub (s0.trans s1) n2
      have hne : e0 ≠ g2 := ne_of' (free_sub s1 n2) v0
      clear s3 v1 n1 s1 n2
      have e9 : bt 3 0 4 = btv lines := by unfold btv; rw [if_neg (by omega), if_pos hb.2]
    case' inr.inr =>
      obtain ⟨g2, hh⟩ : ∃ x, x = g1 := ⟨_, rfl⟩
      subst hh
      obtain ⟨τ2, hh⟩ : ∃ x, x = τ1 := ⟨_, rfl⟩
      subst hh
      have v2 := v1
      have s2 := s1
      have hgn : σ g2 = none := free_sub s0 n1
      have hne : e0 ≠ g2 := ne_of' n1 v0
      clear v1 s1 n1
      have e9 : bt 4 0 8 = btv lines := by unfold btv; rw [if_neg (by omega), if_neg (by omega)]
    all_goals
      rw [e9] at v2 ⊢
      simp -implicitDefEqProofs (disch := omega) only [List.any_cons, List.any_nil, Nat.reduceEqDiff, List.map_cons, List.map_nil, Option.map_some, Option.map_none, List.nil_append, ↓reduceIte, vcu0, vcu1, vcu2, vcu3, vcu4, vcu5, vcu6, vcu7, vcu8, vcu9, vcu10, vcu11, vcu12, vcu13, vcu14, vcu15, vcu16, vcu17, vcu18, vcu19, vcu20, vcu21, vcu22, vcu23, vcu24, vcu25, vcu26, ↓vcd0, ↓vcd1, ↓vcd2, ↓vcd3, opK_some]
      refine vc_loop_c mixed (by kernel_rfl) [0, 4] (fun m a τ => ∃ (k e : Nat), m + k = (btv lines).length ∧ a 5 = .int .i64 k ∧ Sub σ τ ∧ τ g2 = some ⟨pairs (btv lines), false⟩ ∧ a 3 = .slice (some ⟨e, 0, none⟩) (((btv lines).take k).filter fun c => decide (c.2 < lines)).length 2 ∧ τ e = some ⟨pairs (((btv lines).take k).filter fun c => decide (c.2 < lines)), false⟩ ∧ σ e = none ∧ e ≠ g2) (btv lines).length ⟨0, e0, by omega, rfl, s0.trans s2, v2, rfl, s2 _ _ v0, n0, hne⟩ ?_
      clear hne s2 v2
      rintro m a τ hc ⟨k, e, hk, h5, hs, hg2, h3, v3, n3, hne⟩
      simp -implicitDefEqProofs (disch := omega) only [List.any_cons, List.any_nil, Nat.reduceEqDiff, List.map_cons, List.map_nil, Option.map_some, Option.map_none, List.nil_append, ↓reduceIte, vcu0, vcu1, vcu2, vcu3, vcu4, vcu5, vcu6, vcu7, vcu8, vcu9, vcu10, vcu11, vcu12, vcu13, vcu14, vcu15, vcu16, vcu17, vcu18, vcu19, vcu20, vcu21, vcu22, vcu23, vcu24, vcu25, vcu26, ↓vcd0, ↓vcd1, ↓vcd2, ↓vcd3] at hc
      obtain ⟨h0', h4', -⟩ := hc
      by_cases hlt : k < (btv lines).length
      · have hx := pairsAt_own hg2 k hlt
        have hx2 := lds_two hx.1 hx.2
        have hlen : (((btv lines).take k).filter fun c => decide (c.2 < lines)).length ≤ k := Nat.le_trans (List.length_filter_le _ _) (by rw [List.length_take]; omega)
        by_cases hB : ((btv lines).getD k (0, 0)).2 < lines
        · have hfl : ((btv lines).take (k + 1)).filter (fun c => decide (c.2 < lines)) = ((btv lines).take k).filter (fun c => decide (c.2 < lines)) ++ [(btv lines).getD k (0, 0)] := by
            rw [take_one hlt, List.filter_append, List.filter_cons, if_pos (by simpa using hB), List.filter_nil]
          simp -implicitDefEqProofs (disch := omega) only [List.any_cons, List.any_nil, Nat.reduceEqDiff, List.map_cons, List.map_nil, Option.map_some, Option.map_none, List.nil_append, ↓reduceIte, vcu0, vcu1, vcu2, vcu3, vcu4, vcu5, vcu6, vcu7, vcu8, vcu9, vcu10, vcu11, vcu12, vcu13, vcu14, vcu15, vcu16, vcu17, vcu18, vcu19, vcu20, vcu21, vcu22, vcu23, vcu24, vcu25, vcu26, ↓vcd0, ↓vcd1, ↓vcd2, ↓vcd3, h0', h3, h4', h5, hx.1, hx.2, co28, hx2]
          refine r_lit el23 (out := #[.int .i64 ((btv lines).getD k (0, 0)).1, .int .i64 ((btv lines).getD k (0, 0)).2]) (by first | kernel_rfl | (simp -implicitDefEqProofs (disch := omega) only [List.any_cons, List.any_nil, Nat.reduceEqDiff, List.map_cons, List.map_nil, Option.map_some, Option.map_none, List.nil_append, ↓reduceIte, vcu0, vcu1, vcu2, vcu3, vcu4, vcu5, vcu6, vcu7, vcu8, vcu9, vcu10, vcu11, vcu12, vcu13, vcu14, vcu15, vcu16, vcu17, vcu18, vcu19, vcu20, vcu21, vcu22, vcu23, vcu24, vcu25, vcu26, ↓vcd0, ↓vcd1, ↓vcd2, ↓vcd3]; kernel_rfl)) (by rfl) fun e4 τ4 n4 s4 v4 => ?_
          refine r_pushP (β := σ.upd g2 (some ⟨pairs (btv lines), false⟩)) (e := e4) (o := 0) (m := 1) (cs := ((btv lines).take k).filter fun c => decide (c.2 < lines)) (ds := [(btv lines).getD k (0, 0)]) el23 (by omega) sl23 (fun x ob hx => ?_) rfl (.inr ⟨e, by simp -implicitDefEqProofs (disch := omega) only [List.any_cons, List.any_nil, Nat.reduceEqDiff, List.map_cons, List.map_nil, Option.map_some, Option.map_none, List.nil_append, ↓reduceIte, vcu0, vcu1, vcu2, vcu3, vcu4, vcu5, vcu6, vcu7, vcu8, vcu9, vcu10, vcu11, vcu12, vcu13, vcu14, vcu15, vcu16, vcu17, vcu18, vcu19, vcu20, vcu21, vcu22, vcu23, vcu24, vcu25, vcu26, ↓vcd0, ↓vcd1, ↓vcd2, ↓vcd3, h3], s4 _ _ v3, by rw [AHeap.upd_ne _ _ hne]; exact n3⟩) (by simp -implicitDefEqProofs (disch := omega) only [List.any_cons, List.any_nil, Nat.reduceEqDiff, List.map_cons, List.map_nil, Option.map_some, Option.map_none, List.nil_append, ↓reduceIte, vcu0, vcu1, vcu2, vcu3, vcu4, vcu5, vcu6, vcu7, vcu8, vcu9, vcu10, vcu11, vcu12, vcu13, vcu14, vcu15, vcu16, vcu17, vcu18, vcu19, vcu20, vcu21, vcu22, vcu23, vcu24, vcu25, vcu26, ↓vcd0, ↓vcd1, ↓vcd2, ↓vcd3]) (pairsAt_own v4) rfl (by omega) fun g5 τ5 s5 n5 v5 => ?_
          · by_cases hxg : x = g2
            · subst hxg; rw [AHeap.upd_same] at hx; rw [s4 _ _ hg2]; exact hx
            · rw [AHeap.upd_ne _ _ hxg] at hx; exact s4 _ _ (hs _ _ hx)
          have hg5 : g5 ≠ g2 := ne_of n5 (AHeap.upd_same _ _ _)
          rw [AHeap.upd_ne _ _ hg5] at n5
          simp -implicitDefEqProofs (disch := omega) only [List.any_cons, List.any_nil, Nat.reduceEqDiff, List.map_cons, List.map_nil, Option.map_some, Option.map_none, List.nil_append, ↓reduceIte, vcu0, vcu1, vcu2, vcu3, vcu4, vcu5, vcu6, vcu7, vcu8, vcu9, vcu10, vcu11, vcu12, vcu13, vcu14, vcu15, vcu16, vcu17, vcu18, vcu19, vcu20, vcu21, vcu22, vcu23, vcu24, vcu25, vcu26, ↓vcd0, ↓vcd1, ↓vcd2, ↓vcd3, h0', h4', h5]
          refine ⟨⟨trivial, trivial, trivial⟩, m - 1, by omega, k + 1, g5, by omega, by simp, fun x ob hxx => s5 _ _ ?_, s5 _ _ (AHeap.upd_same _ _ _), by rw [hfl, List.length_append]; rfl, by rw [hfl]; exact v5, n5, hg5⟩
          by_cases hxg : x = g2
          · subst hxg; rw [hgn] at hxx; cases hxx
          · rw [AHeap.upd_ne _ _ hxg]; exact hxx
        · have hfl : ((btv lines).take (k + 1)).filter (fun c => decide (c.2 < lines)) = ((btv lines).take k).filter (fun c => decide (c.2 < lines)) := by
            rw [take_one hlt, List.filter_append, List.filter_cons, if_neg (by simpa using hB), List.filter_nil, List.append_nil]
          simp -implicitDefEqProofs (disch := omega) only [List.any_cons, List.any_nil, Nat.reduceEqDiff, List.map_cons, List.map_nil, Option.map_some, Option.map_none, List.nil_append, ↓reduceIte, vcu0, vcu1, vcu2, vcu3, vcu4, vcu5, vcu6, vcu7, vcu8, vcu9, vcu10, vcu11, vcu12, vcu13, vcu14, vcu15, vcu16, vcu17, vcu18, vcu19, vcu20, vcu21, vcu22, vcu23, vcu24, vcu25, vcu26, ↓vcd0, ↓vcd1, ↓vcd2, ↓vcd3, h0', h3, h4', h5, hx.1, hx.2]
          refine ⟨⟨trivial, trivial, trivial⟩, m - 1, by omega, k + 1, e, by omega, by simp, hs, hg2, by rw [hfl], by rw [hfl]; exact v3, n3, hne⟩
      · simp -implicitDefEqProofs (disch := omega) only [List.any_cons, List.any_nil, Nat.reduceEqDiff, List.map_cons, List.map_nil, Option.map_some, Option.map_none, List.nil_append, ↓reduceIte, vcu0, vcu1, vcu2, vcu3, vcu4, vcu5, vcu6, vcu7, vcu8, vcu9, vcu10, vcu11, vcu12, vcu13, vcu14, vcu15, vcu16, vcu17, vcu18, vcu19, vcu20, vcu21, vcu22, vcu23, vcu24, vcu25, vcu26, ↓vcd0, ↓vcd1, ↓vcd2, ↓vcd3, h0', h3, h4', h5]
        have e8 : k = (btv lines).length := by omega
        subst e8
        rw [List.take_of_length_le (Nat.le_refl _)] at v3
        refine fin_one Try.results60 ⟨hs, e, ?_, v3, n3⟩
        simp -implicitDefEqProofs (disch := omega) only [List.any_cons, List.any_nil, Nat.reduceEqDiff, List.map_cons, List.map_nil, Option.map_some, Option.map_none, List.nil_append, ↓reduceIte, vcu0, vcu1, vcu2, vcu3, vcu4, vcu5, vcu6, vcu7, vcu8, vcu9, vcu10, vcu11, vcu12, vcu13, vcu14, vcu15, vcu16, vcu17, vcu18, vcu19, vcu20, vcu21, vcu22, vcu23, vcu24, vcu25, vcu26, ↓vcd0, ↓vcd1, ↓vcd2, ↓vcd3]
        try rw [List.take_of_length_le (Nat.le_refl _)]
  · rw [if_neg hS]
    unfold Six at hS
    rw [decide_eq_false hS]
    simp -implicitDefEqProofs (disch := omega) only [List.any_cons, List.any_nil, Nat.reduceEqDiff, List.map_cons, List.map_nil, Option.map_some, Option.map_none, List.nil_append, ↓reduceIte, vcu0, vcu1, vcu2, vcu3, vcu4, vcu5, vcu6, vcu7, vcu8, vcu9, vcu10, vcu11, vcu12, vcu13, vcu14, vcu15, vcu16, vcu17, vcu18, vcu19, vcu20, vcu21, vcu22, vcu23, vcu24, vcu25, vcu26, ↓vcd0, ↓vcd1, ↓vcd2, ↓vcd3, opK_some]
    refine fin_one Try.results60 ⟨s0, e0, ?_, v0, n0⟩
    simp -implicitDefEqProofs (disch := omega) only [List.any_cons, List.any_nil, Nat.reduceEqDiff, List.map_cons, List.map_nil, Option.map_some, Option.map_none, List.nil_append, ↓reduceIte, vcu0, vcu1, vcu2, vcu3, vcu4, vcu5, vcu6, vcu7, vcu8, vcu9, vcu10, vcu11, vcu12, vcu13, vcu14, vcu15, vcu16, vcu17, vcu18, vcu19, vcu20, vcu21, vcu22, vcu23, vcu24, vcu25, vcu26, ↓vcd0, ↓vcd1, ↓vcd2, ↓vcd3]
    rfl
end Go.Proofs.Ytnkpoflhdfchjaa

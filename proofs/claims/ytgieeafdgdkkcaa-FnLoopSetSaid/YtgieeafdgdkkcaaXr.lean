/- The colouring of the program, which goes back to a label; growing and joining rows of truths. -/
import Derived.Test.YtgieeafdgdkkcaaXq
import Derived.Test.YtgieeafdgdkkcaaXp
import Derived.Test.YtgieeafdgdkkcaaXe
set_option linter.unusedSimpArgs false
set_option linter.unusedVariables false
namespace Go.Proofs.Ytgieeafdgdkkcaa
open Go Go.Abs Go.RowKit Go.Ban
variable {w0 : World}

theorem acodeB_mono {P : Program} {b : Base} {n : NR} {c : Code} {a : AFrame} {σ : AHeap} {Q Q' : AQ} (h : ACodeB P b n c a σ Q') (hq : ∀ e a σ, Q' e a σ → Q e a σ) : ACodeB P b n c a σ Q := ACode.mono h hq
theorem xor_oneL {X : Nat} (h : X < 8) : xorN (X : Int) 1 = fl X := by
  have : ∀ X, X < 8 → (X ^^^ 1) = fl X := by decide
  exact this X h
def told (s : Marks) (i : Nat) : Bool := (s i).isSome
def lower (s : Marks) (i : Nat) : Bool := s i == some true
theorem told_step {N : Nat} {g : Nat → Nat} {s : Marks} {x : Nat} : ((tabB N (told s)).set x true).set (g x) true = tabB N (told (cstep g s x)) := by
  rw [tabB_set, tabB_set]
  refine tabB_congr fun j _ => ?_
  unfold told cstep upd
  by_cases e1 : j = g x
  · rw [if_pos e1, if_pos e1]; rfl
  · rw [if_neg e1, if_neg e1]
    by_cases e2 : j = x
    · rw [if_pos e2, if_pos e2]; rfl
    · rw [if_neg e2, if_neg e2]
theorem lower_step {N : Nat} {g : Nat → Nat} {s : Marks} {x : Nat} (hx : s x = none) : (tabB N (lower s)).set (g x) true = tabB N (lower (cstep g s x)) := by
  rw [tabB_set]
  refine tabB_congr fun j _ => ?_
  unfold lower cstep upd
  by_cases e1 : j = g x
  · rw [if_pos e1, if_pos e1]; rfl
  · rw [if_neg e1, if_neg e1]
    by_cases e2 : j = x
    · rw [if_pos e2, e2, hx]; rfl
    · rw [if_neg e2]

theorem loopSides_at (σ : AHeap) (h o H : Nat) (q : Nat → Nat) (hH : 1 ≤ H ∧ H ≤ 4) (hq : PermF (2 * H) q) (hx : ∀ τ, Sub σ τ → ∀ k, k < 2 * H → ld τ h (o + k) = some (.int .i64 (q k : Nat))) :
    ACall Try.prog w0 67 [.slice (some ⟨h, o, none⟩) (2 * H) 1] σ fun r σ' => ∃ g, r = .slice (some ⟨g, 0, none⟩) (2 * H) 1 ∧ σ g = none ∧ Sub σ σ' ∧ σ' g = some ⟨bools (tabB (2 * H) (lowQ H q)), false⟩ := by
  have F := fl_Inv H
  have G := gq_Inv hq
  refine acall_go mixed Try.func67 rfl good67 fun pr => ?_
  simp -implicitDefEqProofs (disch := omega) only [List.any_cons, List.any_nil, Nat.reduceEqDiff, List.map_cons, List.map_nil, Option.map_some, Option.map_none, List.nil_append, ↓reduceIte, vcu0, vcu1, vcu2, vcu3, vcu4, vcu5, vcu6, vcu7, vcu8, vcu9, vcu10, vcu11, vcu12, vcu13, vcu14, vcu15, vcu16, vcu17, vcu18, vcu19, vcu20, vcu21, vcu22, ↓vcd0, ↓vcd1, ↓vcd2, ↓vcd3]
  refine r_makeI (kx := .i64) (ky := .i64) (l := 2 * H) (c := 2 * H) el30 (by omega) (by simp -implicitDefEqProofs (disch := omega) only [List.any_cons, List.any_nil, Nat.reduceEqDiff, List.map_cons, List.map_nil, Option.map_some, Option.map_none, List.nil_append, ↓reduceIte, vcu0, vcu1, vcu2, vcu3, vcu4, vcu5, vcu6, vcu7, vcu8, vcu9, vcu10, vcu11, vcu12, vcu13, vcu14, vcu15, vcu16, vcu17, vcu18, vcu19, vcu20, vcu21, vcu22, ↓vcd0, ↓vcd1, ↓vcd2, ↓vcd3]) (by simp -implicitDefEqProofs (disch := omega) only [List.any_cons, List.any_nil, Nat.reduceEqDiff, List.map_cons, List.map_nil, Option.map_some, Option.map_none, List.nil_append, ↓reduceIte, vcu0, vcu1, vcu2, vcu3, vcu4, vcu5, vcu6, vcu7, vcu8, vcu9, vcu10, vcu11, vcu12, vcu13, vcu14, vcu15, vcu16, vcu17, vcu18, vcu19, vcu20, vcu21, vcu22, ↓vcd0, ↓vcd1, ↓vcd2, ↓vcd3]) (by omega) fun gb τ1 nb s1 e1 => ?_
  simp -implicitDefEqProofs (disch := omega) only [List.any_cons, List.any_nil, Nat.reduceEqDiff, List.map_cons, List.map_nil, Option.map_some, Option.map_none, List.nil_append, ↓reduceIte, vcu0, vcu1, vcu2, vcu3, vcu4, vcu5, vcu6, vcu7, vcu8, vcu9, vcu10, vcu11, vcu12, vcu13, vcu14, vcu15, vcu16, vcu17, vcu18, vcu19, vcu20, vcu21, vcu22, ↓vcd0, ↓vcd1, ↓vcd2, ↓vcd3]
  refine vc_loop_c mixed (by kernel_rfl) [0, 3, 14, 15] (fun m a τ => ∃ k, m + k = 2 * H ∧ a 16 = .int .i64 (k : Nat) ∧ Sub σ τ ∧ τ gb = some ⟨ints .i64 (tabI (2 * H) (bp (2 * H) q k)), false⟩) (2 * H) ⟨0, by simp, rfl, s1, by rw [e1, ← tabI_zero]; congr 3⟩ ?_
  rintro m a τ3 hc ⟨k, hk, h16, hs3, vb⟩
  simp -implicitDefEqProofs (disch := omega) only [List.any_cons, List.any_nil, Nat.reduceEqDiff, List.map_cons, List.map_nil, Option.map_some, Option.map_none, List.nil_append, ↓reduceIte, vcu0, vcu1, vcu2, vcu3, vcu4, vcu5, vcu6, vcu7, vcu8, vcu9, vcu10, vcu11, vcu12, vcu13, vcu14, vcu15, vcu16, vcu17, vcu18, vcu19, vcu20, vcu21, vcu22, ↓vcd0, ↓vcd1, ↓vcd2, ↓vcd3] at hc
  obtain ⟨h0, h3, h14, h15, -⟩ := hc
  by_cases hlt : k < 2 * H
  · have lx := hx τ3 hs3 k hlt
    have hqk := hq.1 k hlt
    simp -implicitDefEqProofs (disch := omega) only [List.any_cons, List.any_nil, Nat.reduceEqDiff, List.map_cons, List.map_nil, Option.map_some, Option.map_none, List.nil_append, ↓reduceIte, vcu0, vcu1, vcu2, vcu3, vcu4, vcu5, vcu6, vcu7, vcu8, vcu9, vcu10, vcu11, vcu12, vcu13, vcu14, vcu15, vcu16, vcu17, vcu18, vcu19, vcu20, vcu21, vcu22, ↓vcd0, ↓vcd1, ↓vcd2, ↓vcd3, h0, h3, h14, h15, h16, lx]
    refine r_setI (g := gb) (i := 0 + q k) (v := (k : Int)) (by simp -implicitDefEqProofs (disch := omega) only [List.any_cons, List.any_nil, Nat.reduceEqDiff, List.map_cons, List.map_nil, Option.map_some, Option.map_none, List.nil_append, ↓reduceIte, vcu0, vcu1, vcu2, vcu3, vcu4, vcu5, vcu6, vcu7, vcu8, vcu9, vcu10, vcu11, vcu12, vcu13, vcu14, vcu15, vcu16, vcu17, vcu18, vcu19, vcu20, vcu21, vcu22, ↓vcd0, ↓vcd1, ↓vcd2, ↓vcd3, Int.toNat_natCast]) (by simp -implicitDefEqProofs (disch := omega) only [List.any_cons, List.any_nil, Nat.reduceEqDiff, List.map_cons, List.map_nil, Option.map_some, Option.map_none, List.nil_append, ↓reduceIte, vcu0, vcu1, vcu2, vcu3, vcu4, vcu5, vcu6, vcu7, vcu8, vcu9, vcu10, vcu11, vcu12, vcu13, vcu14, vcu15, vcu16, vcu17, vcu18, vcu19, vcu20, vcu21, vcu22, ↓vcd0, ↓vcd1, ↓vcd2, ↓vcd3]) co3 vb (by rw [tabI_length]; omega) fun τ4 k4 v4 => ?_
    rw [Nat.zero_add, tabI_set, tabI_congr fun o _ => bp_step hq hlt o] at v4
    simp -implicitDefEqProofs (disch := omega) only [List.any_cons, List.any_nil, Nat.reduceEqDiff, List.map_cons, List.map_nil, Option.map_some, Option.map_none, List.nil_append, ↓reduceIte, vcu0, vcu1, vcu2, vcu3, vcu4, vcu5, vcu6, vcu7, vcu8, vcu9, vcu10, vcu11, vcu12, vcu13, vcu14, vcu15, vcu16, vcu17, vcu18, vcu19, vcu20, vcu21, vcu22, ↓vcd0, ↓vcd1, ↓vcd2, ↓vcd3, h0, h3, h14, h15, h16]
    exact ⟨⟨trivial, trivial, trivial, trivial, trivial⟩, m - 1, by omega, k + 1, by omega, by simp, k4.sub hs3 nb, v4⟩
  obtain rfl : 2 * H = k := by omega
  clear hlt hk e1 s1
  rw [tabI_congr fun o ho => bp_all hq ho] at vb
  simp -implicitDefEqProofs (disch := omega) only [List.any_cons, List.any_nil, Nat.reduceEqDiff, List.map_cons, List.map_nil, Option.map_some, Option.map_none, List.nil_append, ↓reduceIte, vcu0, vcu1, vcu2, vcu3, vcu4, vcu5, vcu6, vcu7, vcu8, vcu9, vcu10, vcu11, vcu12, vcu13, vcu14, vcu15, vcu16, vcu17, vcu18, vcu19, vcu20, vcu21, vcu22, ↓vcd0, ↓vcd1, ↓vcd2, ↓vcd3, h0, h3, h14, h15, h16]
  refine acodeB_mono (Q' := fun e a' τ8 => e = .normal ∧ ∃ g6 g7, (a' 0 = .slice (some ⟨h, o, none⟩) (2 * H) 1 ∧ a' 3 = .slice (some ⟨gb, 0, none⟩) (2 * H) 1 ∧ a' 6 = .slice (some ⟨g6, 0, none⟩) (2 * H) 1 ∧ a' 7 = .slice (some ⟨g7, 0, none⟩) (2 * H) 1) ∧ τ8 g6 = some ⟨bools (List.replicate (2 * H) false), false⟩ ∧ τ8 g7 = some ⟨bools (List.replicate (2 * H) false), false⟩ ∧ Sub τ3 τ8 ∧ τ3 g6 = none ∧ τ3 g7 = none ∧ g6 ≠ g7)
    (region_tree mixed (quiets [0, 3, 1, 4] (.two 2 (quiets [6] (.one 5 (quiets [7] .stop))) 5 (.one 2 (quiets [6, 7] .stop)))) [] (by kernel_rfl) (by kernel_rfl) (fun p hp => absurd hp (by simp)) ?_) ?_
  · refine tree_quiets (fun _ => none) _ _ _ (fun _ _ _ _ => fun x ob e => by cases e) (by kernel_rfl) (by kernel_rfl) ?_
    simp -implicitDefEqProofs (disch := omega) only [List.any_cons, List.any_nil, Nat.reduceEqDiff, List.map_cons, List.map_nil, Option.map_some, Option.map_none, List.nil_append, ↓reduceIte, vcu0, vcu1, vcu2, vcu3, vcu4, vcu5, vcu6, vcu7, vcu8, vcu9, vcu10, vcu11, vcu12, vcu13, vcu14, vcu15, vcu16, vcu17, vcu18, vcu19, vcu20, vcu21, vcu22, ↓vcd0, ↓vcd1, ↓vcd2, ↓vcd3, pickOps_nil, pickOps_cons, pickO_some, List.getElem?_cons_succ, List.getElem?_cons_zero, h0]
    refine tree_two rfl rfl ?_ ?_
    · refine r_makeB (kx := .i64) (ky := .i64) (l := 2 * H) (c := 2 * H) el27 (by omega) (by simp -implicitDefEqProofs (disch := omega) only [List.any_cons, List.any_nil, Nat.reduceEqDiff, List.map_cons, List.map_nil, Option.map_some, Option.map_none, List.nil_append, ↓reduceIte, vcu0, vcu1, vcu2, vcu3, vcu4, vcu5, vcu6, vcu7, vcu8, vcu9, vcu10, vcu11, vcu12, vcu13, vcu14, vcu15, vcu16, vcu17, vcu18, vcu19, vcu20, vcu21, vcu22, ↓vcd0, ↓vcd1, ↓vcd2, ↓vcd3]) (by simp -implicitDefEqProofs (disch := omega) only [List.any_cons, List.any_nil, Nat.reduceEqDiff, List.map_cons, List.map_nil, Option.map_some, Option.map_none, List.nil_append, ↓reduceIte, vcu0, vcu1, vcu2, vcu3, vcu4, vcu5, vcu6, vcu7, vcu8, vcu9, vcu10, vcu11, vcu12, vcu13, vcu14, vcu15, vcu16, vcu17, vcu18, vcu19, vcu20, vcu21, vcu22, ↓vcd0, ↓vcd1, ↓vcd2, ↓vcd3]) (by omega) fun g6 τ5 n6 s6 v6 => ?_
      simp -implicitDefEqProofs (disch := omega) only [List.any_cons, List.any_nil, Nat.reduceEqDiff, List.map_cons, List.map_nil, Option.map_some, Option.map_none, List.nil_append, ↓reduceIte, vcu0, vcu1, vcu2, vcu3, vcu4, vcu5, vcu6, vcu7, vcu8, vcu9, vcu10, vcu11, vcu12, vcu13, vcu14, vcu15, vcu16, vcu17, vcu18, vcu19, vcu20, vcu21, vcu22, ↓vcd0, ↓vcd1, ↓vcd2, ↓vcd3]
      refine ⟨keep_of rfl (fun p hp => absurd hp (by simp)), ?_⟩
      refine tree_quiets (fun _ => none) _ _ _ (fun _ _ _ _ => fun x ob e => by cases e) (by kernel_rfl) (by kernel_rfl) ?_
      simp -implicitDefEqProofs (disch := omega) only [List.any_cons, List.any_nil, Nat.reduceEqDiff, List.map_cons, List.map_nil, Option.map_some, Option.map_none, List.nil_append, ↓reduceIte, vcu0, vcu1, vcu2, vcu3, vcu4, vcu5, vcu6, vcu7, vcu8, vcu9, vcu10, vcu11, vcu12, vcu13, vcu14, vcu15, vcu16, vcu17, vcu18, vcu19, vcu20, vcu21, vcu22, ↓vcd0, ↓vcd1, ↓vcd2, ↓vcd3, pickOps_nil, pickOps_cons, pickO_some, List.getElem?_cons_succ, List.getElem?_cons_zero]
      refine tree_one rfl ?_
      refine r_makeB (kx := .i64) (ky := .i64) (l := 2 * H) (c := 2 * H) el27 (by omega) (by simp -implicitDefEqProofs (disch := omega) only [List.any_cons, List.any_nil, Nat.reduceEqDiff, List.map_cons, List.map_nil, Option.map_some, Option.map_none, List.nil_append, ↓reduceIte, vcu0, vcu1, vcu2, vcu3, vcu4, vcu5, vcu6, vcu7, vcu8, vcu9, vcu10, vcu11, vcu12, vcu13, vcu14, vcu15, vcu16, vcu17, vcu18, vcu19, vcu20, vcu21, vcu22, ↓vcd0, ↓vcd1, ↓vcd2, ↓vcd3]) (by simp -implicitDefEqProofs (disch := omega) only [List.any_cons, List.any_nil, Nat.reduceEqDiff, List.map_cons, List.map_nil, Option.map_some, Option.map_none, List.nil_append, ↓reduceIte, vcu0, vcu1, vcu2, vcu3, vcu4, vcu5, vcu6, vcu7, vcu8, vcu9, vcu10, vcu11, vcu12, vcu13, vcu14, vcu15, vcu16, vcu17, vcu18, vcu19, vcu20, vcu21, vcu22, ↓vcd0, ↓vcd1, ↓vcd2, ↓vcd3]) (by omega) fun g7 τ6 n7 s7 v7 => ?_
      simp -implicitDefEqProofs (disch := omega) only [List.any_cons, List.any_nil, Nat.reduceEqDiff, List.map_cons, List.map_nil, Option.map_some, Option.map_none, List.nil_append, ↓reduceIte, vcu0, vcu1, vcu2, vcu3, vcu4, vcu5, vcu6, vcu7, vcu8, vcu9, vcu10, vcu11, vcu12, vcu13, vcu14, vcu15, vcu16, vcu17, vcu18, vcu19, vcu20, vcu21, vcu22, ↓vcd0, ↓vcd1, ↓vcd2, ↓vcd3]
      refine ⟨keep_of rfl (fun p hp => absurd hp (by simp)), ?_⟩
      refine tree_quiets (fun _ => none) _ _ _ (fun _ _ _ _ => fun x ob e => by cases e) (by kernel_rfl) (by kernel_rfl) ?_
      simp -implicitDefEqProofs (disch := omega) only [List.any_cons, List.any_nil, Nat.reduceEqDiff, List.map_cons, List.map_nil, Option.map_some, Option.map_none, List.nil_append, ↓reduceIte, vcu0, vcu1, vcu2, vcu3, vcu4, vcu5, vcu6, vcu7, vcu8, vcu9, vcu10, vcu11, vcu12, vcu13, vcu14, vcu15, vcu16, vcu17, vcu18, vcu19, vcu20, vcu21, vcu22, ↓vcd0, ↓vcd1, ↓vcd2, ↓vcd3, pickOps_nil, pickOps_cons, pickO_some, List.getElem?_cons_succ, List.getElem?_cons_zero]
      refine tree_stop ?_
      refine ⟨trivial, g6, g7, ⟨?_, ?_, ?_, ?_⟩, s7 _ _ v6, v7, s6.trans s7, n6, free_sub s6 n7, ne_of' n7 v6⟩
      · simp -implicitDefEqProofs (disch := omega) only [List.any_cons, List.any_nil, Nat.reduceEqDiff, List.map_cons, List.map_nil, Option.map_some, Option.map_none, List.nil_append, ↓reduceIte, vcu0, vcu1, vcu2, vcu3, vcu4, vcu5, vcu6, vcu7, vcu8, vcu9, vcu10, vcu11, vcu12, vcu13, vcu14, vcu15, vcu16, vcu17, vcu18, vcu19, vcu20, vcu21, vcu22, ↓vcd0, ↓vcd1, ↓vcd2, ↓vcd3, h0]
      · simp -implicitDefEqProofs (disch := omega) only [List.any_cons, List.any_nil, Nat.reduceEqDiff, List.map_cons, List.map_nil, Option.map_some, Option.map_none, List.nil_append, ↓reduceIte, vcu0, vcu1, vcu2, vcu3, vcu4, vcu5, vcu6, vcu7, vcu8, vcu9, vcu10, vcu11, vcu12, vcu13, vcu14, vcu15, vcu16, vcu17, vcu18, vcu19, vcu20, vcu21, vcu22, ↓vcd0, ↓vcd1, ↓vcd2, ↓vcd3, h3]
      · simp -implicitDefEqProofs (disch := omega) only [List.any_cons, List.any_nil, Nat.reduceEqDiff, List.map_cons, List.map_nil, Option.map_some, Option.map_none, List.nil_append, ↓reduceIte, vcu0, vcu1, vcu2, vcu3, vcu4, vcu5, vcu6, vcu7, vcu8, vcu9, vcu10, vcu11, vcu12, vcu13, vcu14, vcu15, vcu16, vcu17, vcu18, vcu19, vcu20, vcu21, vcu22, ↓vcd0, ↓vcd1, ↓vcd2, ↓vcd3]
      · simp -implicitDefEqProofs (disch := omega) only [List.any_cons, List.any_nil, Nat.reduceEqDiff, List.map_cons, List.map_nil, Option.map_some, Option.map_none, List.nil_append, ↓reduceIte, vcu0, vcu1, vcu2, vcu3, vcu4, vcu5, vcu6, vcu7, vcu8, vcu9, vcu10, vcu11, vcu12, vcu13, vcu14, vcu15, vcu16, vcu17, vcu18, vcu19, vcu20, vcu21, vcu22, ↓vcd0, ↓vcd1, ↓vcd2, ↓vcd3]
    · refine r_makeB (kx := .i64) (ky := .i64) (l := 2 * H) (c := 2 * H) el27 (by omega) (by simp -implicitDefEqProofs (disch := omega) only [List.any_cons, List.any_nil, Nat.reduceEqDiff, List.map_cons, List.map_nil, Option.map_some, Option.map_none, List.nil_append, ↓reduceIte, vcu0, vcu1, vcu2, vcu3, vcu4, vcu5, vcu6, vcu7, vcu8, vcu9, vcu10, vcu11, vcu12, vcu13, vcu14, vcu15, vcu16, vcu17, vcu18, vcu19, vcu20, vcu21, vcu22, ↓vcd0, ↓vcd1, ↓vcd2, ↓vcd3]) (by simp -implicitDefEqProofs (disch := omega) only [List.any_cons, List.any_nil, Nat.reduceEqDiff, List.map_cons, List.map_nil, Option.map_some, Option.map_none, List.nil_append, ↓reduceIte, vcu0, vcu1, vcu2, vcu3, vcu4, vcu5, vcu6, vcu7, vcu8, vcu9, vcu10, vcu11, vcu12, vcu13, vcu14, vcu15, vcu16, vcu17, vcu18, vcu19, vcu20, vcu21, vcu22, ↓vcd0, ↓vcd1, ↓vcd2, ↓vcd3]) (by omega) fun g7 τ5 n7 s7 v7 => ?_
      simp -implicitDefEqProofs (disch := omega) only [List.any_cons, List.any_nil, Nat.reduceEqDiff, List.map_cons, List.map_nil, Option.map_some, Option.map_none, List.nil_append, ↓reduceIte, vcu0, vcu1, vcu2, vcu3, vcu4, vcu5, vcu6, vcu7, vcu8, vcu9, vcu10, vcu11, vcu12, vcu13, vcu14, vcu15, vcu16, vcu17, vcu18, vcu19, vcu20, vcu21, vcu22, ↓vcd0, ↓vcd1, ↓vcd2, ↓vcd3]
      refine ⟨keep_of rfl (fun p hp => absurd hp (by simp)), ?_⟩
      refine tree_one rfl ?_
      refine r_makeB (kx := .i64) (ky := .i64) (l := 2 * H) (c := 2 * H) el27 (by omega) (by simp -implicitDefEqProofs (disch := omega) only [List.any_cons, List.any_nil, Nat.reduceEqDiff, List.map_cons, List.map_nil, Option.map_some, Option.map_none, List.nil_append, ↓reduceIte, vcu0, vcu1, vcu2, vcu3, vcu4, vcu5, vcu6, vcu7, vcu8, vcu9, vcu10, vcu11, vcu12, vcu13, vcu14, vcu15, vcu16, vcu17, vcu18, vcu19, vcu20, vcu21, vcu22, ↓vcd0, ↓vcd1, ↓vcd2, ↓vcd3]) (by simp -implicitDefEqProofs (disch := omega) only [List.any_cons, List.any_nil, Nat.reduceEqDiff, List.map_cons, List.map_nil, Option.map_some, Option.map_none, List.nil_append, ↓reduceIte, vcu0, vcu1, vcu2, vcu3, vcu4, vcu5, vcu6, vcu7, vcu8, vcu9, vcu10, vcu11, vcu12, vcu13, vcu14, vcu15, vcu16, vcu17, vcu18, vcu19, vcu20, vcu21, vcu22, ↓vcd0, ↓vcd1, ↓vcd2, ↓vcd3]) (by omega) fun g6 τ6 n6 s6 v6 => ?_
      simp -implicitDefEqProofs (disch := omega) only [List.any_cons, List.any_nil, Nat.reduceEqDiff, List.map_cons, List.map_nil, Option.map_some, Option.map_none, List.nil_append, ↓reduceIte, vcu0, vcu1, vcu2, vcu3, vcu4, vcu5, vcu6, vcu7, vcu8, vcu9, vcu10, vcu11, vcu12, vcu13, vcu14, vcu15, vcu16, vcu17, vcu18, vcu19, vcu20, vcu21, vcu22, ↓vcd0, ↓vcd1, ↓vcd2, ↓vcd3]
      refine ⟨keep_of rfl (fun p hp => absurd hp (by simp)), ?_⟩
      refine tree_quiets (fun _ => none) _ _ _ (fun _ _ _ _ => fun x ob e => by cases e) (by kernel_rfl) (by kernel_rfl) ?_
      simp -implicitDefEqProofs (disch := omega) only [List.any_cons, List.any_nil, Nat.reduceEqDiff, List.map_cons, List.map_nil, Option.map_some, Option.map_none, List.nil_append, ↓reduceIte, vcu0, vcu1, vcu2, vcu3, vcu4, vcu5, vcu6, vcu7, vcu8, vcu9, vcu10, vcu11, vcu12, vcu13, vcu14, vcu15, vcu16, vcu17, vcu18, vcu19, vcu20, vcu21, vcu22, ↓vcd0, ↓vcd1, ↓vcd2, ↓vcd3, pickOps_nil, pickOps_cons, pickO_some, List.getElem?_cons_succ, List.getElem?_cons_zero]
      refine tree_stop ?_
      refine ⟨trivial, g6, g7, ⟨?_, ?_, ?_, ?_⟩, v6, s6 _ _ v7, s7.trans s6, free_sub s7 n6, n7, ne_of n6 v7⟩
      · simp -implicitDefEqProofs (disch := omega) only [List.any_cons, List.any_nil, Nat.reduceEqDiff, List.map_cons, List.map_nil, Option.map_some, Option.map_none, List.nil_append, ↓reduceIte, vcu0, vcu1, vcu2, vcu3, vcu4, vcu5, vcu6, vcu7, vcu8, vcu9, vcu10, vcu11, vcu12, vcu13, vcu14, vcu15, vcu16, vcu17, vcu18, vcu19, vcu20, vcu21, vcu22, ↓vcd0, ↓vcd1, ↓vcd2, ↓vcd3, h0]
      · simp -implicitDefEqProofs (disch := omega) only [List.any_cons, List.any_nil, Nat.reduceEqDiff, List.map_cons, List.map_nil, Option.map_some, Option.map_none, List.nil_append, ↓reduceIte, vcu0, vcu1, vcu2, vcu3, vcu4, vcu5, vcu6, vcu7, vcu8, vcu9, vcu10, vcu11, vcu12, vcu13, vcu14, vcu15, vcu16, vcu17, vcu18, vcu19, vcu20, vcu21, vcu22, ↓vcd0, ↓vcd1, ↓vcd2, ↓vcd3, h3]
      · simp -implicitDefEqProofs (disch := omega) only [List.any_cons, List.any_nil, Nat.reduceEqDiff, List.map_cons, List.map_nil, Option.map_some, Option.map_none, List.nil_append, ↓reduceIte, vcu0, vcu1, vcu2, vcu3, vcu4, vcu5, vcu6, vcu7, vcu8, vcu9, vcu10, vcu11, vcu12, vcu13, vcu14, vcu15, vcu16, vcu17, vcu18, vcu19, vcu20, vcu21, vcu22, ↓vcd0, ↓vcd1, ↓vcd2, ↓vcd3]
      · simp -implicitDefEqProofs (disch := omega) only [List.any_cons, List.any_nil, Nat.reduceEqDiff, List.map_cons, List.map_nil, Option.map_some, Option.map_none, List.nil_append, ↓reduceIte, vcu0, vcu1, vcu2, vcu3, vcu4, vcu5, vcu6, vcu7, vcu8, vcu9, vcu10, vcu11, vcu12, vcu13, vcu14, vcu15, vcu16, vcu17, vcu18, vcu19, vcu20, vcu21, vcu22, ↓vcd0, ↓vcd1, ↓vcd2, ↓vcd3]
  rintro _ a' τ8 ⟨rfl, g6, g7, ⟨f0, f3, f6, f7⟩, v6, v7, s8, n6, n7, d67⟩
  have nσ6 : σ g6 = none := free_sub hs3 n6
  have nσ7 : σ g7 = none := free_sub hs3 n7
  have hs8 := hs3.trans s8
  have vb8 := s8 _ _ vb
  have db6 : gb ≠ g6 := ne_of' n6 vb
  have db7 : gb ≠ g7 := ne_of' n7 vb
  rw [← tabB_false] at v6 v7
  have vt8 : τ8 g6 = some ⟨bools (tabB (2 * H) (told (call fl (gq (2 * H) q) (2 * H) 0))), false⟩ := v6
  have vl8 : τ8 g7 = some ⟨bools (tabB (2 * H) (lower (call fl (gq (2 * H) q) (2 * H) 0))), false⟩ := v7
  clear vb s8 n6 n7 v6 v7 hs3 nb
  simp -implicitDefEqProofs (disch := omega) only [List.any_cons, List.any_nil, Nat.reduceEqDiff, List.map_cons, List.map_nil, Option.map_some, Option.map_none, List.nil_append, ↓reduceIte, vcu0, vcu1, vcu2, vcu3, vcu4, vcu5, vcu6, vcu7, vcu8, vcu9, vcu10, vcu11, vcu12, vcu13, vcu14, vcu15, vcu16, vcu17, vcu18, vcu19, vcu20, vcu21, vcu22, ↓vcd0, ↓vcd1, ↓vcd2, ↓vcd3, f0, f3, f6, f7]
  refine vc_loop_c mixed (by kernel_rfl) [0, 3, 6, 7, 33] (fun m a τ => ∃ k, m + k = 2 * H ∧ a 34 = .int .i64 (k : Nat) ∧ Sub σ τ ∧ τ gb = some ⟨ints .i64 (tabI (2 * H) (bk (2 * H) q)), false⟩ ∧ τ g6 = some ⟨bools (tabB (2 * H) (told (call fl (gq (2 * H) q) (2 * H) k))), false⟩ ∧ τ g7 = some ⟨bools (tabB (2 * H) (lower (call fl (gq (2 * H) q) (2 * H) k))), false⟩) (2 * H) ⟨0, by simp, rfl, hs8, vb8, vt8, vl8⟩ ?_
  clear hs8 vb8 vt8 vl8
  rintro m2 a2 τ9 hc2 ⟨k, hk, h34, hs9, vb9, vt9, vl9⟩
  simp -implicitDefEqProofs (disch := omega) only [List.any_cons, List.any_nil, Nat.reduceEqDiff, List.map_cons, List.map_nil, Option.map_some, Option.map_none, List.nil_append, ↓reduceIte, vcu0, vcu1, vcu2, vcu3, vcu4, vcu5, vcu6, vcu7, vcu8, vcu9, vcu10, vcu11, vcu12, vcu13, vcu14, vcu15, vcu16, vcu17, vcu18, vcu19, vcu20, vcu21, vcu22, ↓vcd0, ↓vcd1, ↓vcd2, ↓vcd3, f0, f3, f6, f7] at hc2
  obtain ⟨p0, p3, p6, p7, p33, -⟩ := hc2
  by_cases hlt : k < 2 * H
  case neg =>
    obtain rfl : 2 * H = k := by omega
    simp -implicitDefEqProofs (disch := omega) only [List.any_cons, List.any_nil, Nat.reduceEqDiff, List.map_cons, List.map_nil, Option.map_some, Option.map_none, List.nil_append, ↓reduceIte, vcu0, vcu1, vcu2, vcu3, vcu4, vcu5, vcu6, vcu7, vcu8, vcu9, vcu10, vcu11, vcu12, vcu13, vcu14, vcu15, vcu16, vcu17, vcu18, vcu19, vcu20, vcu21, vcu22, ↓vcd0, ↓vcd1, ↓vcd2, ↓vcd3, p0, p3, p6, p7, p33, h34]
    refine fin_one Try.results67 ⟨g7, ?_, nσ7, hs9, vl9⟩
    simp -implicitDefEqProofs (disch := omega) only [List.any_cons, List.any_nil, Nat.reduceEqDiff, List.map_cons, List.map_nil, Option.map_some, Option.map_none, List.nil_append, ↓reduceIte, vcu0, vcu1, vcu2, vcu3, vcu4, vcu5, vcu6, vcu7, vcu8, vcu9, vcu10, vcu11, vcu12, vcu13, vcu14, vcu15, vcu16, vcu17, vcu18, vcu19, vcu20, vcu21, vcu22, ↓vcd0, ↓vcd1, ↓vcd2, ↓vcd3, p7]
  simp -implicitDefEqProofs (disch := omega) only [List.any_cons, List.any_nil, Nat.reduceEqDiff, List.map_cons, List.map_nil, Option.map_some, Option.map_none, List.nil_append, ↓reduceIte, vcu0, vcu1, vcu2, vcu3, vcu4, vcu5, vcu6, vcu7, vcu8, vcu9, vcu10, vcu11, vcu12, vcu13, vcu14, vcu15, vcu16, vcu17, vcu18, vcu19, vcu20, vcu21, vcu22, ↓vcd0, ↓vcd1, ↓vcd2, ↓vcd3, p0, p3, p6, p7, p33, h34, vc_scope_eq]
  refine vc_scope mixed (by kernel_rfl) (by kernel_rfl) 0 (fun m a τ => (a 0 = .slice (some ⟨h, o, none⟩) (2 * H) 1 ∧ a 3 = .slice (some ⟨gb, 0, none⟩) (2 * H) 1 ∧ a 6 = .slice (some ⟨g6, 0, none⟩) (2 * H) 1 ∧ a 7 = .slice (some ⟨g7, 0, none⟩) (2 * H) 1 ∧ a 33 = .int .i64 ((2 * H : Nat) : Int) ∧ a 34 = .int .i64 (k : Nat)) ∧ ∃ (s : Marks) (x : Nat), a 9 = .int .i64 (x : Nat) ∧ x < 2 * H ∧ s x = none ∧ cgo fl (gq (2 * H) q) m s x = call fl (gq (2 * H) q) (2 * H) (k + 1) ∧ free s (2 * H) ≤ m ∧ Sub σ τ ∧ τ gb = some ⟨ints .i64 (tabI (2 * H) (bk (2 * H) q)), false⟩ ∧ τ g6 = some ⟨bools (tabB (2 * H) (told s)), false⟩ ∧ τ g7 = some ⟨bools (tabB (2 * H) (lower s)), false⟩) rfl ?_ ?_
  · have lt9 := own_atB vt9 (i := k) (by rw [tabB_length]; exact hlt)
    rw [tabB_getD hlt] at lt9
    cases hsk : call fl (gq (2 * H) q) (2 * H) k k with
    | some b =>
      have hne : call fl (gq (2 * H) q) (2 * H) k k ≠ none := by rw [hsk]; simp
      have hcg : call fl (gq (2 * H) q) (2 * H) (k + 1) = call fl (gq (2 * H) q) (2 * H) k := cgo_some hne
      have htl : told (call fl (gq (2 * H) q) (2 * H) k) k = true := by unfold told; rw [hsk]; rfl
      rw [htl] at lt9
      rw [← hcg] at vt9 vl9
      simp -implicitDefEqProofs (disch := omega) only [List.any_cons, List.any_nil, Nat.reduceEqDiff, List.map_cons, List.map_nil, Option.map_some, Option.map_none, List.nil_append, ↓reduceIte, vcu0, vcu1, vcu2, vcu3, vcu4, vcu5, vcu6, vcu7, vcu8, vcu9, vcu10, vcu11, vcu12, vcu13, vcu14, vcu15, vcu16, vcu17, vcu18, vcu19, vcu20, vcu21, vcu22, ↓vcd0, ↓vcd1, ↓vcd2, ↓vcd3, p0, p3, p6, p7, p33, h34, lt9, ↓vc_label, ↓vc_goto, ↓jumpK_normal, ↓jumpK_exit, ↓jumpK_ret, ↓jumpK_goto, ↓seqC_goto]
      exact ⟨⟨f0.symm, f3.symm, f6.symm, f7.symm, trivial, trivial⟩, m2 - 1, by omega, k + 1, by omega, by simp, hs9, vb9, vt9, vl9⟩
    | none =>
      have htl : told (call fl (gq (2 * H) q) (2 * H) k) k = false := by unfold told; rw [hsk]; rfl
      rw [htl] at lt9
      obtain ⟨m4, hm4⟩ : ∃ m4, 2 * H = m4 + 1 := ⟨2 * H - 1, by omega⟩
      have hcg : cgo fl (gq (2 * H) q) (m4 + 1) (call fl (gq (2 * H) q) (2 * H) k) k = call fl (gq (2 * H) q) (2 * H) (k + 1) := by rw [← hm4]; rfl
      have hfr := free_le (call fl (gq (2 * H) q) (2 * H) k) (2 * H)
      obtain ⟨x, hxe⟩ : ∃ x, k = x := ⟨k, rfl⟩
      generalize hss : call fl (gq (2 * H) q) (2 * H) k = s at *
      have hsx : s x = none := by rw [← hxe]; exact hsk
      have hxl : x < 2 * H := by omega
      rw [hxe] at hcg
      have vt := vt9
      have vl := vl9
      simp -implicitDefEqProofs (disch := omega) only [List.any_cons, List.any_nil, Nat.reduceEqDiff, List.map_cons, List.map_nil, Option.map_some, Option.map_none, List.nil_append, ↓reduceIte, vcu0, vcu1, vcu2, vcu3, vcu4, vcu5, vcu6, vcu7, vcu8, vcu9, vcu10, vcu11, vcu12, vcu13, vcu14, vcu15, vcu16, vcu17, vcu18, vcu19, vcu20, vcu21, vcu22, ↓vcd0, ↓vcd1, ↓vcd2, ↓vcd3, p0, p3, p6, p7, p33, h34, lt9, ↓vc_label, ↓vc_goto, ↓jumpK_normal, ↓jumpK_exit, ↓jumpK_ret, ↓jumpK_goto, ↓seqC_goto]
      rw [hxe]
      rw [hxe] at h34
      have hqx := hq.1 x hxl
      have hfx := F.lt _ hqx
      have hgx := G.lt x hxl
      have hfg := F.lt _ hgx
      have lx := hx τ9 hs9 x hxl
      have vi := vb9
      have lb := intsAt_own vi (fl (q x)) (by rw [tabI_length]; exact hfx)
      rw [tabI_getD hfx] at lb
      have hgq : bk (2 * H) q (fl (q x)) = gq (2 * H) q x := rfl
      rw [hgq] at lb
      have xo1 := xor_oneL (X := q x) (by omega)
      have xo2 := xor_oneL (X := gq (2 * H) q x) (by omega)
      simp -implicitDefEqProofs (disch := omega) only [List.any_cons, List.any_nil, Nat.reduceEqDiff, List.map_cons, List.map_nil, Option.map_some, Option.map_none, List.nil_append, ↓reduceIte, vcu0, vcu1, vcu2, vcu3, vcu4, vcu5, vcu6, vcu7, vcu8, vcu9, vcu10, vcu11, vcu12, vcu13, vcu14, vcu15, vcu16, vcu17, vcu18, vcu19, vcu20, vcu21, vcu22, ↓vcd0, ↓vcd1, ↓vcd2, ↓vcd3, p0, p3, p6, p7, p33, h34, lx, abin_xor', xo1, lb, Int.toNat_natCast]
      refine r_setB (g := g6) (i := 0 + x) (v := true) (by simp -implicitDefEqProofs (disch := omega) only [List.any_cons, List.any_nil, Nat.reduceEqDiff, List.map_cons, List.map_nil, Option.map_some, Option.map_none, List.nil_append, ↓reduceIte, vcu0, vcu1, vcu2, vcu3, vcu4, vcu5, vcu6, vcu7, vcu8, vcu9, vcu10, vcu11, vcu12, vcu13, vcu14, vcu15, vcu16, vcu17, vcu18, vcu19, vcu20, vcu21, vcu22, ↓vcd0, ↓vcd1, ↓vcd2, ↓vcd3, Int.toNat_natCast]) (by simp -implicitDefEqProofs (disch := omega) only [List.any_cons, List.any_nil, Nat.reduceEqDiff, List.map_cons, List.map_nil, Option.map_some, Option.map_none, List.nil_append, ↓reduceIte, vcu0, vcu1, vcu2, vcu3, vcu4, vcu5, vcu6, vcu7, vcu8, vcu9, vcu10, vcu11, vcu12, vcu13, vcu14, vcu15, vcu16, vcu17, vcu18, vcu19, vcu20, vcu21, vcu22, ↓vcd0, ↓vcd1, ↓vcd2, ↓vcd3]) co4 vt (by rw [tabB_length]; omega) fun τ20 k20 v20 => ?_
      simp -implicitDefEqProofs (disch := omega) only [List.any_cons, List.any_nil, Nat.reduceEqDiff, List.map_cons, List.map_nil, Option.map_some, Option.map_none, List.nil_append, ↓reduceIte, vcu0, vcu1, vcu2, vcu3, vcu4, vcu5, vcu6, vcu7, vcu8, vcu9, vcu10, vcu11, vcu12, vcu13, vcu14, vcu15, vcu16, vcu17, vcu18, vcu19, vcu20, vcu21, vcu22, ↓vcd0, ↓vcd1, ↓vcd2, ↓vcd3, Int.toNat_natCast]
      refine r_setB (g := g6) (i := 0 + gq (2 * H) q x) (v := true) (by simp -implicitDefEqProofs (disch := omega) only [List.any_cons, List.any_nil, Nat.reduceEqDiff, List.map_cons, List.map_nil, Option.map_some, Option.map_none, List.nil_append, ↓reduceIte, vcu0, vcu1, vcu2, vcu3, vcu4, vcu5, vcu6, vcu7, vcu8, vcu9, vcu10, vcu11, vcu12, vcu13, vcu14, vcu15, vcu16, vcu17, vcu18, vcu19, vcu20, vcu21, vcu22, ↓vcd0, ↓vcd1, ↓vcd2, ↓vcd3, Int.toNat_natCast]) (by simp -implicitDefEqProofs (disch := omega) only [List.any_cons, List.any_nil, Nat.reduceEqDiff, List.map_cons, List.map_nil, Option.map_some, Option.map_none, List.nil_append, ↓reduceIte, vcu0, vcu1, vcu2, vcu3, vcu4, vcu5, vcu6, vcu7, vcu8, vcu9, vcu10, vcu11, vcu12, vcu13, vcu14, vcu15, vcu16, vcu17, vcu18, vcu19, vcu20, vcu21, vcu22, ↓vcd0, ↓vcd1, ↓vcd2, ↓vcd3]) co4 v20 (by simp only [List.length_set, tabB_length]; omega) fun τ21 k21 v21 => ?_
      rw [Nat.zero_add, Nat.zero_add, told_step] at v21
      have vl21 := k21.at (k20.at vl d67.symm) d67.symm
      simp -implicitDefEqProofs (disch := omega) only [List.any_cons, List.any_nil, Nat.reduceEqDiff, List.map_cons, List.map_nil, Option.map_some, Option.map_none, List.nil_append, ↓reduceIte, vcu0, vcu1, vcu2, vcu3, vcu4, vcu5, vcu6, vcu7, vcu8, vcu9, vcu10, vcu11, vcu12, vcu13, vcu14, vcu15, vcu16, vcu17, vcu18, vcu19, vcu20, vcu21, vcu22, ↓vcd0, ↓vcd1, ↓vcd2, ↓vcd3, p0, p3, p6, p7, p33, h34, Int.toNat_natCast]
      refine r_setB (g := g7) (i := 0 + gq (2 * H) q x) (v := true) (by simp -implicitDefEqProofs (disch := omega) only [List.any_cons, List.any_nil, Nat.reduceEqDiff, List.map_cons, List.map_nil, Option.map_some, Option.map_none, List.nil_append, ↓reduceIte, vcu0, vcu1, vcu2, vcu3, vcu4, vcu5, vcu6, vcu7, vcu8, vcu9, vcu10, vcu11, vcu12, vcu13, vcu14, vcu15, vcu16, vcu17, vcu18, vcu19, vcu20, vcu21, vcu22, ↓vcd0, ↓vcd1, ↓vcd2, ↓vcd3, Int.toNat_natCast]) (by simp -implicitDefEqProofs (disch := omega) only [List.any_cons, List.any_nil, Nat.reduceEqDiff, List.map_cons, List.map_nil, Option.map_some, Option.map_none, List.nil_append, ↓reduceIte, vcu0, vcu1, vcu2, vcu3, vcu4, vcu5, vcu6, vcu7, vcu8, vcu9, vcu10, vcu11, vcu12, vcu13, vcu14, vcu15, vcu16, vcu17, vcu18, vcu19, vcu20, vcu21, vcu22, ↓vcd0, ↓vcd1, ↓vcd2, ↓vcd3]) co4 vl21 (by rw [tabB_length]; omega) fun τ22 k22 v22 => ?_
      rw [Nat.zero_add, lower_step hsx] at v22
      have vt22 := k22.at v21 d67
      have hK22 : ∀ z ob, z ≠ g6 → z ≠ g7 → τ9 z = some ob → τ22 z = some ob := fun z ob h1 h2 e => k22.at (k21.at (k20.at e h1) h1) h2
      have hs22 : Sub σ τ22 := fun z ob e => hK22 z ob (ne_of' nσ6 e) (ne_of' nσ7 e) (hs9 z ob e)
      have lt22 := own_atB vt22 (i := fl (gq (2 * H) q x)) (by rw [tabB_length]; exact hfg)
      rw [tabB_getD hfg] at lt22
      change ld τ22 g6 _ = some (.bool ((cstep (gq (2 * H) q) s x (fl (gq (2 * H) q x))).isSome)) at lt22
      have hfr2 := free_cstep (g := gq (2 * H) q) hxl hsx
      rw [cgo_none hsx] at hcg
      simp -implicitDefEqProofs (disch := omega) only [List.any_cons, List.any_nil, Nat.reduceEqDiff, List.map_cons, List.map_nil, Option.map_some, Option.map_none, List.nil_append, ↓reduceIte, vcu0, vcu1, vcu2, vcu3, vcu4, vcu5, vcu6, vcu7, vcu8, vcu9, vcu10, vcu11, vcu12, vcu13, vcu14, vcu15, vcu16, vcu17, vcu18, vcu19, vcu20, vcu21, vcu22, ↓vcd0, ↓vcd1, ↓vcd2, ↓vcd3, p0, p3, p6, p7, p33, h34, abin_xor', xo2, lt22, Int.toNat_natCast]
      cases hnx : cstep (gq (2 * H) q) s x (fl (gq (2 * H) q x)) with
      | none =>
        rw [hnx] at lt22
        have hfl : (none : Option Bool).isSome = false := rfl
        simp -implicitDefEqProofs (disch := omega) only [List.any_cons, List.any_nil, Nat.reduceEqDiff, List.map_cons, List.map_nil, Option.map_some, Option.map_none, List.nil_append, ↓reduceIte, vcu0, vcu1, vcu2, vcu3, vcu4, vcu5, vcu6, vcu7, vcu8, vcu9, vcu10, vcu11, vcu12, vcu13, vcu14, vcu15, vcu16, vcu17, vcu18, vcu19, vcu20, vcu21, vcu22, ↓vcd0, ↓vcd1, ↓vcd2, ↓vcd3, hfl, Bool.not_false, ↓vc_label, ↓vc_goto, ↓jumpK_normal, ↓jumpK_exit, ↓jumpK_ret, ↓jumpK_goto, ↓seqC_goto]
        exact ⟨m4, ⟨p0, p3, p6, p7, p33, h34⟩, _, _, rfl, hfg, hnx, hcg, by omega, hs22, hK22 _ _ db6 db7 vb9, vt22, v22⟩
      | some b =>
        have hne : cstep (gq (2 * H) q) s x (fl (gq (2 * H) q x)) ≠ none := by rw [hnx]; simp
        rw [cgo_some hne] at hcg
        rw [hcg] at vt22 v22
        have hfl : (some b).isSome = true := rfl
        simp -implicitDefEqProofs (disch := omega) only [List.any_cons, List.any_nil, Nat.reduceEqDiff, List.map_cons, List.map_nil, Option.map_some, Option.map_none, List.nil_append, ↓reduceIte, vcu0, vcu1, vcu2, vcu3, vcu4, vcu5, vcu6, vcu7, vcu8, vcu9, vcu10, vcu11, vcu12, vcu13, vcu14, vcu15, vcu16, vcu17, vcu18, vcu19, vcu20, vcu21, vcu22, ↓vcd0, ↓vcd1, ↓vcd2, ↓vcd3, hfl, Bool.not_true, ↓vc_label, ↓vc_goto, ↓jumpK_normal, ↓jumpK_exit, ↓jumpK_ret, ↓jumpK_goto, ↓seqC_goto, p0, p3, p6, p7, p33, h34]
        exact ⟨⟨f0.symm, f3.symm, f6.symm, f7.symm, trivial, trivial⟩, m2 - 1, by omega, x + 1, by omega, by simp, hs22, hK22 _ _ db6 db7 vb9, vt22, v22⟩
  · rintro m5 a5 τ10 ⟨⟨r0, r3, r6, r7, r33, r34⟩, s, x, r9, hxl, hsx, hcg, hfr, hs10, vb10, vt, vl⟩
    have hpos := free_pos hsx (2 * H) hxl
    obtain ⟨m4, rfl⟩ : ∃ m4, m5 = m4 + 1 := ⟨m5 - 1, by omega⟩
    have hqx := hq.1 x hxl
    have hfx := F.lt _ hqx
    have hgx := G.lt x hxl
    have hfg := F.lt _ hgx
    have lx := hx τ10 hs10 x hxl
    have vi := vb10
    have lb := intsAt_own vi (fl (q x)) (by rw [tabI_length]; exact hfx)
    rw [tabI_getD hfx] at lb
    have hgq : bk (2 * H) q (fl (q x)) = gq (2 * H) q x := rfl
    rw [hgq] at lb
    have xo1 := xor_oneL (X := q x) (by omega)
    have xo2 := xor_oneL (X := gq (2 * H) q x) (by omega)
    simp -implicitDefEqProofs (disch := omega) only [List.any_cons, List.any_nil, Nat.reduceEqDiff, List.map_cons, List.map_nil, Option.map_some, Option.map_none, List.nil_append, ↓reduceIte, vcu0, vcu1, vcu2, vcu3, vcu4, vcu5, vcu6, vcu7, vcu8, vcu9, vcu10, vcu11, vcu12, vcu13, vcu14, vcu15, vcu16, vcu17, vcu18, vcu19, vcu20, vcu21, vcu22, ↓vcd0, ↓vcd1, ↓vcd2, ↓vcd3, ↓vc_label, r0, r3, r6, r7, r9, r33, r34, lx, abin_xor', xo1, lb, Int.toNat_natCast]
    refine r_setB (g := g6) (i := 0 + x) (v := true) (by simp -implicitDefEqProofs (disch := omega) only [List.any_cons, List.any_nil, Nat.reduceEqDiff, List.map_cons, List.map_nil, Option.map_some, Option.map_none, List.nil_append, ↓reduceIte, vcu0, vcu1, vcu2, vcu3, vcu4, vcu5, vcu6, vcu7, vcu8, vcu9, vcu10, vcu11, vcu12, vcu13, vcu14, vcu15, vcu16, vcu17, vcu18, vcu19, vcu20, vcu21, vcu22, ↓vcd0, ↓vcd1, ↓vcd2, ↓vcd3, Int.toNat_natCast]) (by simp -implicitDefEqProofs (disch := omega) only [List.any_cons, List.any_nil, Nat.reduceEqDiff, List.map_cons, List.map_nil, Option.map_some, Option.map_none, List.nil_append, ↓reduceIte, vcu0, vcu1, vcu2, vcu3, vcu4, vcu5, vcu6, vcu7, vcu8, vcu9, vcu10, vcu11, vcu12, vcu13, vcu14, vcu15, vcu16, vcu17, vcu18, vcu19, vcu20, vcu21, vcu22, ↓vcd0, ↓vcd1, ↓vcd2, ↓vcd3]) co4 vt (by rw [tabB_length]; omega) fun τ20 k20 v20 => ?_
    simp -implicitDefEqProofs (disch := omega) only [List.any_cons, List.any_nil, Nat.reduceEqDiff, List.map_cons, List.map_nil, Option.map_some, Option.map_none, List.nil_append, ↓reduceIte, vcu0, vcu1, vcu2, vcu3, vcu4, vcu5, vcu6, vcu7, vcu8, vcu9, vcu10, vcu11, vcu12, vcu13, vcu14, vcu15, vcu16, vcu17, vcu18, vcu19, vcu20, vcu21, vcu22, ↓vcd0, ↓vcd1, ↓vcd2, ↓vcd3, Int.toNat_natCast]
    refine r_setB (g := g6) (i := 0 + gq (2 * H) q x) (v := true) (by simp -implicitDefEqProofs (disch := omega) only [List.any_cons, List.any_nil, Nat.reduceEqDiff, List.map_cons, List.map_nil, Option.map_some, Option.map_none, List.nil_append, ↓reduceIte, vcu0, vcu1, vcu2, vcu3, vcu4, vcu5, vcu6, vcu7, vcu8, vcu9, vcu10, vcu11, vcu12, vcu13, vcu14, vcu15, vcu16, vcu17, vcu18, vcu19, vcu20, vcu21, vcu22, ↓vcd0, ↓vcd1, ↓vcd2, ↓vcd3, Int.toNat_natCast]) (by simp -implicitDefEqProofs (disch := omega) only [List.any_cons, List.any_nil, Nat.reduceEqDiff, List.map_cons, List.map_nil, Option.map_some, Option.map_none, List.nil_append, ↓reduceIte, vcu0, vcu1, vcu2, vcu3, vcu4, vcu5, vcu6, vcu7, vcu8, vcu9, vcu10, vcu11, vcu12, vcu13, vcu14, vcu15, vcu16, vcu17, vcu18, vcu19, vcu20, vcu21, vcu22, ↓vcd0, ↓vcd1, ↓vcd2, ↓vcd3]) co4 v20 (by simp only [List.length_set, tabB_length]; omega) fun τ21 k21 v21 => ?_
    rw [Nat.zero_add, Nat.zero_add, told_step] at v21
    have vl21 := k21.at (k20.at vl d67.symm) d67.symm
    simp -implicitDefEqProofs (disch := omega) only [List.any_cons, List.any_nil, Nat.reduceEqDiff, List.map_cons, List.map_nil, Option.map_some, Option.map_none, List.nil_append, ↓reduceIte, vcu0, vcu1, vcu2, vcu3, vcu4, vcu5, vcu6, vcu7, vcu8, vcu9, vcu10, vcu11, vcu12, vcu13, vcu14, vcu15, vcu16, vcu17, vcu18, vcu19, vcu20, vcu21, vcu22, ↓vcd0, ↓vcd1, ↓vcd2, ↓vcd3, r0, r3, r6, r7, r9, r33, r34, Int.toNat_natCast]
    refine r_setB (g := g7) (i := 0 + gq (2 * H) q x) (v := true) (by simp -implicitDefEqProofs (disch := omega) only [List.any_cons, List.any_nil, Nat.reduceEqDiff, List.map_cons, List.map_nil, Option.map_some, Option.map_none, List.nil_append, ↓reduceIte, vcu0, vcu1, vcu2, vcu3, vcu4, vcu5, vcu6, vcu7, vcu8, vcu9, vcu10, vcu11, vcu12, vcu13, vcu14, vcu15, vcu16, vcu17, vcu18, vcu19, vcu20, vcu21, vcu22, ↓vcd0, ↓vcd1, ↓vcd2, ↓vcd3, Int.toNat_natCast]) (by simp -implicitDefEqProofs (disch := omega) only [List.any_cons, List.any_nil, Nat.reduceEqDiff, List.map_cons, List.map_nil, Option.map_some, Option.map_none, List.nil_append, ↓reduceIte, vcu0, vcu1, vcu2, vcu3, vcu4, vcu5, vcu6, vcu7, vcu8, vcu9, vcu10, vcu11, vcu12, vcu13, vcu14, vcu15, vcu16, vcu17, vcu18, vcu19, vcu20, vcu21, vcu22, ↓vcd0, ↓vcd1, ↓vcd2, ↓vcd3]) co4 vl21 (by rw [tabB_length]; omega) fun τ22 k22 v22 => ?_
    rw [Nat.zero_add, lower_step hsx] at v22
    have vt22 := k22.at v21 d67
    have hK22 : ∀ z ob, z ≠ g6 → z ≠ g7 → τ10 z = some ob → τ22 z = some ob := fun z ob h1 h2 e => k22.at (k21.at (k20.at e h1) h1) h2
    have hs22 : Sub σ τ22 := fun z ob e => hK22 z ob (ne_of' nσ6 e) (ne_of' nσ7 e) (hs10 z ob e)
    have lt22 := own_atB vt22 (i := fl (gq (2 * H) q x)) (by rw [tabB_length]; exact hfg)
    rw [tabB_getD hfg] at lt22
    change ld τ22 g6 _ = some (.bool ((cstep (gq (2 * H) q) s x (fl (gq (2 * H) q x))).isSome)) at lt22
    have hfr2 := free_cstep (g := gq (2 * H) q) hxl hsx
    rw [cgo_none hsx] at hcg
    simp -implicitDefEqProofs (disch := omega) only [List.any_cons, List.any_nil, Nat.reduceEqDiff, List.map_cons, List.map_nil, Option.map_some, Option.map_none, List.nil_append, ↓reduceIte, vcu0, vcu1, vcu2, vcu3, vcu4, vcu5, vcu6, vcu7, vcu8, vcu9, vcu10, vcu11, vcu12, vcu13, vcu14, vcu15, vcu16, vcu17, vcu18, vcu19, vcu20, vcu21, vcu22, ↓vcd0, ↓vcd1, ↓vcd2, ↓vcd3, r0, r3, r6, r7, r9, r33, r34, abin_xor', xo2, lt22, Int.toNat_natCast]
    cases hnx : cstep (gq (2 * H) q) s x (fl (gq (2 * H) q x)) with
    | none =>
      rw [hnx] at lt22
      have hfl : (none : Option Bool).isSome = false := rfl
      simp -implicitDefEqProofs (disch := omega) only [List.any_cons, List.any_nil, Nat.reduceEqDiff, List.map_cons, List.map_nil, Option.map_some, Option.map_none, List.nil_append, ↓reduceIte, vcu0, vcu1, vcu2, vcu3, vcu4, vcu5, vcu6, vcu7, vcu8, vcu9, vcu10, vcu11, vcu12, vcu13, vcu14, vcu15, vcu16, vcu17, vcu18, vcu19, vcu20, vcu21, vcu22, ↓vcd0, ↓vcd1, ↓vcd2, ↓vcd3, hfl, Bool.not_false, ↓vc_label, ↓vc_goto, ↓jumpK_normal, ↓jumpK_exit, ↓jumpK_ret, ↓jumpK_goto, ↓seqC_goto]
      exact ⟨m4, by omega, ⟨r0, r3, r6, r7, r33, r34⟩, _, _, rfl, hfg, hnx, hcg, by omega, hs22, hK22 _ _ db6 db7 vb10, vt22, v22⟩
    | some b =>
      have hne : cstep (gq (2 * H) q) s x (fl (gq (2 * H) q x)) ≠ none := by rw [hnx]; simp
      rw [cgo_some hne] at hcg
      rw [hcg] at vt22 v22
      have hfl : (some b).isSome = true := rfl
      simp -implicitDefEqProofs (disch := omega) only [List.any_cons, List.any_nil, Nat.reduceEqDiff, List.map_cons, List.map_nil, Option.map_some, Option.map_none, List.nil_append, ↓reduceIte, vcu0, vcu1, vcu2, vcu3, vcu4, vcu5, vcu6, vcu7, vcu8, vcu9, vcu10, vcu11, vcu12, vcu13, vcu14, vcu15, vcu16, vcu17, vcu18, vcu19, vcu20, vcu21, vcu22, ↓vcd0, ↓vcd1, ↓vcd2, ↓vcd3, hfl, Bool.not_true, ↓vc_label, ↓vc_goto, ↓jumpK_normal, ↓jumpK_exit, ↓jumpK_ret, ↓jumpK_goto, ↓seqC_goto, r0, r3, r6, r7, r9, r33, r34]
      exact ⟨⟨f0.symm, f3.symm, f6.symm, f7.symm, trivial, trivial⟩, m2 - 1, by omega, k + 1, by omega, by simp, hs22, hK22 _ _ db6 db7 vb10, vt22, v22⟩
end Go.Proofs.Ytgieeafdgdkkcaa

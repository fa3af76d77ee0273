/- MiddleFree of the reference. -/
import Derived.Test.YtphacjkogompoaaCh
set_option linter.unusedSimpArgs false
set_option linter.unusedVariables false
namespace Go.Proofs.Ytphacjkogompoaa
open Go Go.Abs Go.RowKit Go.Clos
variable {w0 : World}

theorem acodeB_mono {P : Program} {b : Base} {n : NR} {c : Code} {a : AFrame} {σ : AHeap} {Q Q' : AQ} (h : ACodeB P b n c a σ Q') (hq : ∀ e a σ, Q' e a σ → Q e a σ) : ACodeB P b n c a σ Q := ACode.mono h hq
theorem specFree_at (σ : AHeap) (s : Sp) (h o : Nat) (cs : List Cl) (I O : Int) (hv : TrisAt σ h o cs) (hl : cs.length ≤ 1048576) :
    ACall Try.prog w0 33 [.agg #[.int .i64 s.O, .int .i64 s.E, .int .i64 s.M], .slice (some ⟨h, o, none⟩) cs.length 3, .int .i64 I, .int .i64 O] σ fun r σ' => Sub σ σ' ∧ OwnI σ σ' r (freeV s cs I O) := by
  refine acall_go mixed Try.func33 rfl good33 fun pr => ?_
  simp -implicitDefEqProofs (disch := omega) only [List.any_cons, List.any_nil, Nat.reduceEqDiff, List.map_cons, List.map_nil, Option.map_some, Option.map_none, List.nil_append, ↓reduceIte, vcu, ↓vcd]
  refine r_boxed fun b τ nb s1 e1 => ?_
  replace e1 : τ b = some ⟨[.int .i64 s.O, .int .i64 s.E, .int .i64 s.M], false⟩ := e1
  simp -implicitDefEqProofs (disch := omega) only [List.any_cons, List.any_nil, Nat.reduceEqDiff, List.map_cons, List.map_nil, Option.map_some, Option.map_none, List.nil_append, ↓reduceIte, vcu, ↓vcd]
  refine r_lit el37 (out := #[]) (by kernel_rfl) (by kernel_rfl) fun e0 τ1 n1 s2 e2 => ?_
  have hs1 := s1.trans s2
  have nσ := free_sub s1 n1
  have hve := fun (τ' : AHeap) (hs : Sub σ τ') => specCV_at (w0 := w0) τ' s.O s.E s.M h o cs (hv.sub hs) hl
  have m3 : ∀ τ', Sub τ τ' → lds τ' b 0 3 = some [.int .i64 s.O, .int .i64 s.E, .int .i64 s.M] := fun τ' hs => lds_three (ld_of (hs _ _ e1) rfl) (ld_of (hs _ _ e1) rfl) (ld_of (hs _ _ e1) rfl)
  have mM : ∀ τ', Sub τ τ' → ld τ' b (0 + 2) = some (.int .i64 s.M) := fun τ' hs => ld_of (hs _ _ e1) rfl
  by_cases hC : CV s cs
  case neg =>
    rw [freeV_no fun hh => hC hh.1]
    simp -implicitDefEqProofs (disch := omega) only [List.any_cons, List.any_nil, Nat.reduceEqDiff, List.map_cons, List.map_nil, Option.map_some, Option.map_none, List.nil_append, ↓reduceIte, vcu, ↓vcd]
    refine vc_loop_c mixed (by kernel_rfl) [9] (fun m a τ' => a 1 = .slice (some ⟨h, o, none⟩) cs.length 3 ∧ a 4 = .pointer (some ⟨b, 0, none⟩) ∧ a 10 = .int .i64 0 ∧ τ' = τ1) 0 ⟨rfl, rfl, rfl, rfl⟩ ?_
    rintro m a τ2 hc ⟨h1, h4, h10, rfl⟩
    simp -implicitDefEqProofs (disch := omega) only [List.any_cons, List.any_nil, Nat.reduceEqDiff, List.map_cons, List.map_nil, Option.map_some, Option.map_none, List.nil_append, ↓reduceIte, vcu, ↓vcd] at hc
    obtain ⟨h9, -⟩ := hc
    have l1 := mM τ2 s2
    have l2 := m3 τ2 s2
    by_cases hM : 0 < s.M
    · simp -implicitDefEqProofs (disch := omega) only [List.any_cons, List.any_nil, Nat.reduceEqDiff, List.map_cons, List.map_nil, Option.map_some, Option.map_none, List.nil_append, ↓reduceIte, vcu, ↓vcd, h1, h4, h9, h10, l1, l2, co24]
      refine (hve τ2 hs1).mono ?_
      rintro r _ ⟨rfl, rfl⟩
      rw [decide_eq_false hC]
      simp -implicitDefEqProofs (disch := omega) only [List.any_cons, List.any_nil, Nat.reduceEqDiff, List.map_cons, List.map_nil, Option.map_some, Option.map_none, List.nil_append, ↓reduceIte, vcu, ↓vcd, opK_some, h9]
      refine fin_one Try.results33 ⟨hs1, .inr ⟨e0, ?_, e2, nσ⟩⟩
      simp -implicitDefEqProofs (disch := omega) only [List.any_cons, List.any_nil, Nat.reduceEqDiff, List.map_cons, List.map_nil, Option.map_some, Option.map_none, List.nil_append, ↓reduceIte, vcu, ↓vcd, h9]
      rfl
    · simp -implicitDefEqProofs (disch := omega) only [List.any_cons, List.any_nil, Nat.reduceEqDiff, List.map_cons, List.map_nil, Option.map_some, Option.map_none, List.nil_append, ↓reduceIte, vcu, ↓vcd, h1, h4, h9, h10, l1, l2, co24]
      refine fin_one Try.results33 ⟨hs1, .inr ⟨e0, ?_, e2, nσ⟩⟩
      simp -implicitDefEqProofs (disch := omega) only [List.any_cons, List.any_nil, Nat.reduceEqDiff, List.map_cons, List.map_nil, Option.map_some, Option.map_none, List.nil_append, ↓reduceIte, vcu, ↓vcd, h9]
      rfl
  have hS := hC.1
  obtain ⟨-, -, hM1, hM2⟩ := hS
  have hl12 := hC.len
  have hle : ∀ k, (freeL s cs I O k).length ≤ k := fun k => by
    have := List.length_filter_le (fun v => decide (Free s cs I O v)) (rng k)
    rw [rng_length] at this; exact this
  simp -implicitDefEqProofs (disch := omega) only [List.any_cons, List.any_nil, Nat.reduceEqDiff, List.map_cons, List.map_nil, Option.map_some, Option.map_none, List.nil_append, ↓reduceIte, vcu, ↓vcd]
  refine vc_loop_c mixed (by kernel_rfl) [1, 2, 3, 4] (fun m a τ' => ∃ (k g : Nat), m + k = s.M.toNat ∧ a 10 = .int .i64 k ∧ a 9 = .slice (some ⟨g, 0, none⟩) (freeL s cs I O k).length 1 ∧ Sub τ τ' ∧ τ' g = some ⟨ints .i64 (freeL s cs I O k), false⟩ ∧ τ g = none) s.M.toNat ⟨0, e0, by simp, rfl, rfl, s2, e2, n1⟩ ?_
  rintro m a τ2 hc ⟨k, g, hk, h10, h9, hs, hg, hn⟩
  simp -implicitDefEqProofs (disch := omega) only [List.any_cons, List.any_nil, Nat.reduceEqDiff, List.map_cons, List.map_nil, Option.map_some, Option.map_none, List.nil_append, ↓reduceIte, vcu, ↓vcd] at hc
  obtain ⟨h1, h2, h3, h4, -⟩ := hc
  have l1 := mM τ2 hs
  have l2 := m3 τ2 hs
  by_cases hlt : k < s.M.toNat
  case neg =>
    obtain rfl : k = s.M.toNat := by omega
    simp -implicitDefEqProofs (disch := omega) only [List.any_cons, List.any_nil, Nat.reduceEqDiff, List.map_cons, List.map_nil, Option.map_some, Option.map_none, List.nil_append, ↓reduceIte, vcu, ↓vcd, h1, h2, h3, h4, h9, h10, l1, l2]
    refine fin_one Try.results33 ⟨s1.trans hs, .inr ⟨g, ?_, hg, free_sub s1 hn⟩⟩
    simp -implicitDefEqProofs (disch := omega) only [List.any_cons, List.any_nil, Nat.reduceEqDiff, List.map_cons, List.map_nil, Option.map_some, Option.map_none, List.nil_append, ↓reduceIte, vcu, ↓vcd, h9]
    rfl
  simp -implicitDefEqProofs (disch := omega) only [List.any_cons, List.any_nil, Nat.reduceEqDiff, List.map_cons, List.map_nil, Option.map_some, Option.map_none, List.nil_append, ↓reduceIte, vcu, ↓vcd, h1, h2, h3, h4, h9, h10, l1, l2, co24]
  refine (hve τ2 (s1.trans hs)).mono ?_
  rintro r _ ⟨rfl, rfl⟩
  rename_i τ2
  rw [decide_eq_true hC]
  have hlk := hle k
  have hsucc := freeL_succ s cs I O k
  have hve2 := fun (τ' : AHeap) (g9 : Nat) (hh : τ' g9 = some ⟨tris (cs ++ [⟨I, O, (k : Int)⟩]), false⟩) => specCV_at (w0 := w0) τ' s.O s.E s.M g9 0 (cs ++ [⟨I, O, (k : Int)⟩]) (trisAt_own hh) (by simp; omega)
  have hll : (cs ++ [(⟨I, O, (k : Int)⟩ : Cl)]).length = cs.length + 1 := by simp
  rw [hll] at hve2
  simp -implicitDefEqProofs (disch := omega) only [List.any_cons, List.any_nil, Nat.reduceEqDiff, List.map_cons, List.map_nil, Option.map_some, Option.map_none, List.nil_append, ↓reduceIte, vcu, ↓vcd, opK_some, h1, h2, h3, h4, h9, h10, co24]
  refine acodeB_mono (Q' := fun e a' τ8 => e = .normal ∧ (a' 1 = .slice (some ⟨h, o, none⟩) cs.length 3 ∧ a' 2 = .int .i64 I ∧ a' 3 = .int .i64 O ∧ a' 4 = .pointer (some ⟨b, 0, none⟩) ∧ a' 9 = .slice (some ⟨g, 0, none⟩) (freeL s cs I O k).length 1 ∧ a' 10 = .int .i64 (k : Int) ∧ a' 33 = .bool (decide (Free s cs I O k))) ∧ Sub τ2 τ8)
    (region_tree mixed (quiets [0, 2, 4, 5, 6, 7] (.two 1 (.two 3 (.one 8 (.one 9 (.one 10 .stop))) 8 (.one 3 (.one 9 (.one 10 .stop)))) 8 (.one 1 (.one 3 (.one 9 (.one 10 .stop)))))) [([0, 2, 4, 5, 6, 7], Sub τ2)] (by kernel_rfl) (by kernel_rfl) (fun p hp => by simp only [List.mem_singleton] at hp; subst hp; exact Sub.refl _) ?_) ?_
  · refine tree_quiets τ2 _ _ _ sf1 (by kernel_rfl) (by kernel_rfl) ?_
    simp -implicitDefEqProofs (disch := omega) only [List.any_cons, List.any_nil, Nat.reduceEqDiff, List.map_cons, List.map_nil, Option.map_some, Option.map_none, List.nil_append, ↓reduceIte, vcu, ↓vcd, pickOps_nil, pickOps_cons, pickO_some, List.getElem?_cons_succ, List.getElem?_cons_zero, h1, h2, h3, h4, h9, h10, l2, co24]
    rw [r_build]
    refine ⟨(_, #[.int .i64 I, .int .i64 O, .int .i64 (k : Int)]), ⟨ze34, by simp -implicitDefEqProofs (disch := omega) only [List.any_cons, List.any_nil, Nat.reduceEqDiff, List.map_cons, List.map_nil, Option.map_some, Option.map_none, List.nil_append, ↓reduceIte, vcu, ↓vcd, h2, h3, h10]; kernel_rfl⟩, ?_⟩
    simp -implicitDefEqProofs (disch := omega) only [List.any_cons, List.any_nil, Nat.reduceEqDiff, List.map_cons, List.map_nil, Option.map_some, Option.map_none, List.nil_append, ↓reduceIte, vcu, ↓vcd, pickOps_nil, pickOps_cons, pickO_some, List.getElem?_cons_succ, List.getElem?_cons_zero]
    refine tree_two rfl rfl ?_ ?_
    · refine r_lit el29 (out := #[]) (by kernel_rfl) (by kernel_rfl) fun ea τ3 n3 s3 v3 => ?_
      simp -implicitDefEqProofs (disch := omega) only [List.any_cons, List.any_nil, Nat.reduceEqDiff, List.map_cons, List.map_nil, Option.map_some, Option.map_none, List.nil_append, ↓reduceIte, vcu, ↓vcd]
      refine ⟨keep_of rfl (fun p hp => by simp only [List.mem_singleton] at hp; subst hp; exact .inr s3), ?_⟩
      refine tree_two rfl rfl ?_ ?_
      · refine r_pushC (g := ea) (e := h) (o := o) (cs := []) (ds := cs) (m := cs.length) (len := 0) el29 (by omega) sl29 (by simp -implicitDefEqProofs (disch := omega) only [List.any_cons, List.any_nil, Nat.reduceEqDiff, List.map_cons, List.map_nil, Option.map_some, Option.map_none, List.nil_append, ↓reduceIte, vcu, ↓vcd]) v3 rfl (by simp -implicitDefEqProofs (disch := omega) only [List.any_cons, List.any_nil, Nat.reduceEqDiff, List.map_cons, List.map_nil, Option.map_some, Option.map_none, List.nil_append, ↓reduceIte, vcu, ↓vcd]) (hv.sub (s1.trans (hs.trans s3))) rfl (by omega) fun gb τ4 n4 k4 v4 => ?_
        rw [List.nil_append] at v4
        have s4 : Sub τ2 τ4 := k4.sub s3 n3
        simp -implicitDefEqProofs (disch := omega) only [List.any_cons, List.any_nil, Nat.reduceEqDiff, List.map_cons, List.map_nil, Option.map_some, Option.map_none, List.nil_append, ↓reduceIte, vcu, ↓vcd]
        refine ⟨keep_of rfl (fun p hp => by simp only [List.mem_singleton] at hp; subst hp; exact .inr s4), tree_one rfl ?_⟩
        refine r_lit el29 (out := #[.int .i64 I, .int .i64 O, .int .i64 (k : Int)]) (by first | kernel_rfl | (simp -implicitDefEqProofs (disch := omega) only [List.any_cons, List.any_nil, Nat.reduceEqDiff, List.map_cons, List.map_nil, Option.map_some, Option.map_none, List.nil_append, ↓reduceIte, vcu, ↓vcd]; kernel_rfl)) (by rfl) fun eb τ5 n5 s5 v5 => ?_
        replace v5 : τ5 eb = some ⟨tris [⟨I, O, (k : Int)⟩], false⟩ := v5
        simp -implicitDefEqProofs (disch := omega) only [List.any_cons, List.any_nil, Nat.reduceEqDiff, List.map_cons, List.map_nil, Option.map_some, Option.map_none, List.nil_append, ↓reduceIte, vcu, ↓vcd]
        have v4' := s5 _ _ v4
        have s5' := s4.trans s5
        refine ⟨keep_of rfl (fun p hp => by simp only [List.mem_singleton] at hp; subst hp; exact .inr s5'), ?_⟩
        refine tree_one rfl ?_
        refine r_pushC (g := gb) (e := eb) (o := 0) (cs := cs) (ds := [⟨I, O, (k : Int)⟩]) (m := 1) (len := cs.length) el29 (by omega) sl29 (by simp -implicitDefEqProofs (disch := omega) only [List.any_cons, List.any_nil, Nat.reduceEqDiff, List.map_cons, List.map_nil, Option.map_some, Option.map_none, List.nil_append, ↓reduceIte, vcu, ↓vcd, Nat.zero_add]) v4' rfl (by simp -implicitDefEqProofs (disch := omega) only [List.any_cons, List.any_nil, Nat.reduceEqDiff, List.map_cons, List.map_nil, Option.map_some, Option.map_none, List.nil_append, ↓reduceIte, vcu, ↓vcd]) (trisAt_own v5) rfl (by omega) fun gc9 τ9 n9 k9 v9 => ?_
        have s9 : Sub τ2 τ9 := fun z ob e => k9.at (s5' _ _ e) (ne_of' (free_sub s3 n4) e)
        simp -implicitDefEqProofs (disch := omega) only [List.any_cons, List.any_nil, Nat.reduceEqDiff, List.map_cons, List.map_nil, Option.map_some, Option.map_none, List.nil_append, ↓reduceIte, vcu, ↓vcd]
        refine ⟨keep_of rfl (fun p hp => by simp only [List.mem_singleton] at hp; subst hp; exact .inr s9), tree_one rfl ?_⟩
        simp -implicitDefEqProofs (disch := omega) only [List.any_cons, List.any_nil, Nat.reduceEqDiff, List.map_cons, List.map_nil, Option.map_some, Option.map_none, List.nil_append, ↓reduceIte, vcu, ↓vcd]
        refine (hve2 τ9 gc9 v9).mono ?_
        rintro r τ10 ⟨rfl, e10⟩
        subst e10
        simp -implicitDefEqProofs (disch := omega) only [List.any_cons, List.any_nil, Nat.reduceEqDiff, List.map_cons, List.map_nil, Option.map_some, Option.map_none, List.nil_append, ↓reduceIte, vcu, ↓vcd, opK_some]
        refine ⟨keep_of rfl (fun p hp => by simp only [List.mem_singleton] at hp; subst hp; exact .inr s9), tree_stop ?_⟩
        refine ⟨trivial, ⟨?_, ?_, ?_, ?_, ?_, ?_, ?_⟩, s9⟩
        · simp -implicitDefEqProofs (disch := omega) only [List.any_cons, List.any_nil, Nat.reduceEqDiff, List.map_cons, List.map_nil, Option.map_some, Option.map_none, List.nil_append, ↓reduceIte, vcu, ↓vcd, h1]
        · simp -implicitDefEqProofs (disch := omega) only [List.any_cons, List.any_nil, Nat.reduceEqDiff, List.map_cons, List.map_nil, Option.map_some, Option.map_none, List.nil_append, ↓reduceIte, vcu, ↓vcd, h2]
        · simp -implicitDefEqProofs (disch := omega) only [List.any_cons, List.any_nil, Nat.reduceEqDiff, List.map_cons, List.map_nil, Option.map_some, Option.map_none, List.nil_append, ↓reduceIte, vcu, ↓vcd, h3]
        · simp -implicitDefEqProofs (disch := omega) only [List.any_cons, List.any_nil, Nat.reduceEqDiff, List.map_cons, List.map_nil, Option.map_some, Option.map_none, List.nil_append, ↓reduceIte, vcu, ↓vcd, h4]
        · simp -implicitDefEqProofs (disch := omega) only [List.any_cons, List.any_nil, Nat.reduceEqDiff, List.map_cons, List.map_nil, Option.map_some, Option.map_none, List.nil_append, ↓reduceIte, vcu, ↓vcd, h9]
        · simp -implicitDefEqProofs (disch := omega) only [List.any_cons, List.any_nil, Nat.reduceEqDiff, List.map_cons, List.map_nil, Option.map_some, Option.map_none, List.nil_append, ↓reduceIte, vcu, ↓vcd, h10]
        · simp -implicitDefEqProofs (disch := omega) only [List.any_cons, List.any_nil, Nat.reduceEqDiff, List.map_cons, List.map_nil, Option.map_some, Option.map_none, List.nil_append, ↓reduceIte, vcu, ↓vcd]
          rfl
      · refine r_lit el29 (out := #[.int .i64 I, .int .i64 O, .int .i64 (k : Int)]) (by first | kernel_rfl | (simp -implicitDefEqProofs (disch := omega) only [List.any_cons, List.any_nil, Nat.reduceEqDiff, List.map_cons, List.map_nil, Option.map_some, Option.map_none, List.nil_append, ↓reduceIte, vcu, ↓vcd]; kernel_rfl)) (by rfl) fun eb τ4 n4 s4 v4 => ?_
        replace v4 : τ4 eb = some ⟨tris [⟨I, O, (k : Int)⟩], false⟩ := v4
        simp -implicitDefEqProofs (disch := omega) only [List.any_cons, List.any_nil, Nat.reduceEqDiff, List.map_cons, List.map_nil, Option.map_some, Option.map_none, List.nil_append, ↓reduceIte, vcu, ↓vcd]
        have s4' := s3.trans s4
        refine ⟨keep_of rfl (fun p hp => by simp only [List.mem_singleton] at hp; subst hp; exact .inr s4'), tree_one rfl ?_⟩
        refine r_pushC (g := ea) (e := h) (o := o) (cs := []) (ds := cs) (m := cs.length) (len := 0) el29 (by omega) sl29 (by simp -implicitDefEqProofs (disch := omega) only [List.any_cons, List.any_nil, Nat.reduceEqDiff, List.map_cons, List.map_nil, Option.map_some, Option.map_none, List.nil_append, ↓reduceIte, vcu, ↓vcd]) (s4 _ _ v3) rfl (by simp -implicitDefEqProofs (disch := omega) only [List.any_cons, List.any_nil, Nat.reduceEqDiff, List.map_cons, List.map_nil, Option.map_some, Option.map_none, List.nil_append, ↓reduceIte, vcu, ↓vcd]) (hv.sub (s1.trans (hs.trans s4'))) rfl (by omega) fun gb τ5 n5 k5 v5 => ?_
        rw [List.nil_append] at v5
        have s5' : Sub τ2 τ5 := k5.sub s4' n3
        have v4' := k5.at v4 (ne_of n4 v3)
        simp -implicitDefEqProofs (disch := omega) only [List.any_cons, List.any_nil, Nat.reduceEqDiff, List.map_cons, List.map_nil, Option.map_some, Option.map_none, List.nil_append, ↓reduceIte, vcu, ↓vcd]
        refine ⟨keep_of rfl (fun p hp => by simp only [List.mem_singleton] at hp; subst hp; exact .inr s5'), ?_⟩
        refine tree_one rfl ?_
        refine r_pushC (g := gb) (e := eb) (o := 0) (cs := cs) (ds := [⟨I, O, (k : Int)⟩]) (m := 1) (len := cs.length) el29 (by omega) sl29 (by simp -implicitDefEqProofs (disch := omega) only [List.any_cons, List.any_nil, Nat.reduceEqDiff, List.map_cons, List.map_nil, Option.map_some, Option.map_none, List.nil_append, ↓reduceIte, vcu, ↓vcd, Nat.zero_add]) v5 rfl (by simp -implicitDefEqProofs (disch := omega) only [List.any_cons, List.any_nil, Nat.reduceEqDiff, List.map_cons, List.map_nil, Option.map_some, Option.map_none, List.nil_append, ↓reduceIte, vcu, ↓vcd]) (trisAt_own v4') rfl (by omega) fun gc9 τ9 n9 k9 v9 => ?_
        have s9 : Sub τ2 τ9 := fun z ob e => k9.at (s5' _ _ e) (ne_of' (free_sub s4' n5) e)
        simp -implicitDefEqProofs (disch := omega) only [List.any_cons, List.any_nil, Nat.reduceEqDiff, List.map_cons, List.map_nil, Option.map_some, Option.map_none, List.nil_append, ↓reduceIte, vcu, ↓vcd]
        refine ⟨keep_of rfl (fun p hp => by simp only [List.mem_singleton] at hp; subst hp; exact .inr s9), tree_one rfl ?_⟩
        simp -implicitDefEqProofs (disch := omega) only [List.any_cons, List.any_nil, Nat.reduceEqDiff, List.map_cons, List.map_nil, Option.map_some, Option.map_none, List.nil_append, ↓reduceIte, vcu, ↓vcd]
        refine (hve2 τ9 gc9 v9).mono ?_
        rintro r τ10 ⟨rfl, e10⟩
        subst e10
        simp -implicitDefEqProofs (disch := omega) only [List.any_cons, List.any_nil, Nat.reduceEqDiff, List.map_cons, List.map_nil, Option.map_some, Option.map_none, List.nil_append, ↓reduceIte, vcu, ↓vcd, opK_some]
        refine ⟨keep_of rfl (fun p hp => by simp only [List.mem_singleton] at hp; subst hp; exact .inr s9), tree_stop ?_⟩
        refine ⟨trivial, ⟨?_, ?_, ?_, ?_, ?_, ?_, ?_⟩, s9⟩
        · simp -implicitDefEqProofs (disch := omega) only [List.any_cons, List.any_nil, Nat.reduceEqDiff, List.map_cons, List.map_nil, Option.map_some, Option.map_none, List.nil_append, ↓reduceIte, vcu, ↓vcd, h1]
        · simp -implicitDefEqProofs (disch := omega) only [List.any_cons, List.any_nil, Nat.reduceEqDiff, List.map_cons, List.map_nil, Option.map_some, Option.map_none, List.nil_append, ↓reduceIte, vcu, ↓vcd, h2]
        · simp -implicitDefEqProofs (disch := omega) only [List.any_cons, List.any_nil, Nat.reduceEqDiff, List.map_cons, List.map_nil, Option.map_some, Option.map_none, List.nil_append, ↓reduceIte, vcu, ↓vcd, h3]
        · simp -implicitDefEqProofs (disch := omega) only [List.any_cons, List.any_nil, Nat.reduceEqDiff, List.map_cons, List.map_nil, Option.map_some, Option.map_none, List.nil_append, ↓reduceIte, vcu, ↓vcd, h4]
        · simp -implicitDefEqProofs (disch := omega) only [List.any_cons, List.any_nil, Nat.reduceEqDiff, List.map_cons, List.map_nil, Option.map_some, Option.map_none, List.nil_append, ↓reduceIte, vcu, ↓vcd, h9]
        · simp -implicitDefEqProofs (disch := omega) only [List.any_cons, List.any_nil, Nat.reduceEqDiff, List.map_cons, List.map_nil, Option.map_some, Option.map_none, List.nil_append, ↓reduceIte, vcu, ↓vcd, h10]
        · simp -implicitDefEqProofs (disch := omega) only [List.any_cons, List.any_nil, Nat.reduceEqDiff, List.map_cons, List.map_nil, Option.map_some, Option.map_none, List.nil_append, ↓reduceIte, vcu, ↓vcd]
          rfl
    · refine r_lit el29 (out := #[.int .i64 I, .int .i64 O, .int .i64 (k : Int)]) (by first | kernel_rfl | (simp -implicitDefEqProofs (disch := omega) only [List.any_cons, List.any_nil, Nat.reduceEqDiff, List.map_cons, List.map_nil, Option.map_some, Option.map_none, List.nil_append, ↓reduceIte, vcu, ↓vcd]; kernel_rfl)) (by rfl) fun eb τ3 n3 s3 v3 => ?_
      replace v3 : τ3 eb = some ⟨tris [⟨I, O, (k : Int)⟩], false⟩ := v3
      simp -implicitDefEqProofs (disch := omega) only [List.any_cons, List.any_nil, Nat.reduceEqDiff, List.map_cons, List.map_nil, Option.map_some, Option.map_none, List.nil_append, ↓reduceIte, vcu, ↓vcd]
      refine ⟨keep_of rfl (fun p hp => by simp only [List.mem_singleton] at hp; subst hp; exact .inr s3), tree_one rfl ?_⟩
      refine r_lit el29 (out := #[]) (by kernel_rfl) (by kernel_rfl) fun ea τ4 n4 s4 v4 => ?_
      have s4' := s3.trans s4
      simp -implicitDefEqProofs (disch := omega) only [List.any_cons, List.any_nil, Nat.reduceEqDiff, List.map_cons, List.map_nil, Option.map_some, Option.map_none, List.nil_append, ↓reduceIte, vcu, ↓vcd]
      refine ⟨keep_of rfl (fun p hp => by simp only [List.mem_singleton] at hp; subst hp; exact .inr s4'), tree_one rfl ?_⟩
      refine r_pushC (g := ea) (e := h) (o := o) (cs := []) (ds := cs) (m := cs.length) (len := 0) el29 (by omega) sl29 (by simp -implicitDefEqProofs (disch := omega) only [List.any_cons, List.any_nil, Nat.reduceEqDiff, List.map_cons, List.map_nil, Option.map_some, Option.map_none, List.nil_append, ↓reduceIte, vcu, ↓vcd]) v4 rfl (by simp -implicitDefEqProofs (disch := omega) only [List.any_cons, List.any_nil, Nat.reduceEqDiff, List.map_cons, List.map_nil, Option.map_some, Option.map_none, List.nil_append, ↓reduceIte, vcu, ↓vcd]) (hv.sub (s1.trans (hs.trans s4'))) rfl (by omega) fun gb τ5 n5 k5 v5 => ?_
      rw [List.nil_append] at v5
      have s5' : Sub τ2 τ5 := k5.sub s4' (free_sub s3 n4)
      have v3' := k5.at (s4 _ _ v3) (ne_of' n4 v3)
      simp -implicitDefEqProofs (disch := omega) only [List.any_cons, List.any_nil, Nat.reduceEqDiff, List.map_cons, List.map_nil, Option.map_some, Option.map_none, List.nil_append, ↓reduceIte, vcu, ↓vcd]
      refine ⟨keep_of rfl (fun p hp => by simp only [List.mem_singleton] at hp; subst hp; exact .inr s5'), ?_⟩
      refine tree_one rfl ?_
      refine r_pushC (g := gb) (e := eb) (o := 0) (cs := cs) (ds := [⟨I, O, (k : Int)⟩]) (m := 1) (len := cs.length) el29 (by omega) sl29 (by simp -implicitDefEqProofs (disch := omega) only [List.any_cons, List.any_nil, Nat.reduceEqDiff, List.map_cons, List.map_nil, Option.map_some, Option.map_none, List.nil_append, ↓reduceIte, vcu, ↓vcd, Nat.zero_add]) v5 rfl (by simp -implicitDefEqProofs (disch := omega) only [List.any_cons, List.any_nil, Nat.reduceEqDiff, List.map_cons, List.map_nil, Option.map_some, Option.map_none, List.nil_append, ↓reduceIte, vcu, ↓vcd]) (trisAt_own v3') rfl (by omega) fun gc9 τ9 n9 k9 v9 => ?_
      have s9 : Sub τ2 τ9 := fun z ob e => k9.at (s5' _ _ e) (ne_of' (free_sub s4' n5) e)
      simp -implicitDefEqProofs (disch := omega) only [List.any_cons, List.any_nil, Nat.reduceEqDiff, List.map_cons, List.map_nil, Option.map_some, Option.map_none, List.nil_append, ↓reduceIte, vcu, ↓vcd]
      refine ⟨keep_of rfl (fun p hp => by simp only [List.mem_singleton] at hp; subst hp; exact .inr s9), tree_one rfl ?_⟩
      simp -implicitDefEqProofs (disch := omega) only [List.any_cons, List.any_nil, Nat.reduceEqDiff, List.map_cons, List.map_nil, Option.map_some, Option.map_none, List.nil_append, ↓reduceIte, vcu, ↓vcd]
      refine (hve2 τ9 gc9 v9).mono ?_
      rintro r τ10 ⟨rfl, e10⟩
      subst e10
      simp -implicitDefEqProofs (disch := omega) only [List.any_cons, List.any_nil, Nat.reduceEqDiff, List.map_cons, List.map_nil, Option.map_some, Option.map_none, List.nil_append, ↓reduceIte, vcu, ↓vcd, opK_some]
      refine ⟨keep_of rfl (fun p hp => by simp only [List.mem_singleton] at hp; subst hp; exact .inr s9), tree_stop ?_⟩
      refine ⟨trivial, ⟨?_, ?_, ?_, ?_, ?_, ?_, ?_⟩, s9⟩
      · simp -implicitDefEqProofs (disch := omega) only [List.any_cons, List.any_nil, Nat.reduceEqDiff, List.map_cons, List.map_nil, Option.map_some, Option.map_none, List.nil_append, ↓reduceIte, vcu, ↓vcd, h1]
      · simp -implicitDefEqProofs (disch := omega) only [List.any_cons, List.any_nil, Nat.reduceEqDiff, List.map_cons, List.map_nil, Option.map_some, Option.map_none, List.nil_append, ↓reduceIte, vcu, ↓vcd, h2]
      · simp -implicitDefEqProofs (disch := omega) only [List.any_cons, List.any_nil, Nat.reduceEqDiff, List.map_cons, List.map_nil, Option.map_some, Option.map_none, List.nil_append, ↓reduceIte, vcu, ↓vcd, h3]
      · simp -implicitDefEqProofs (disch := omega) only [List.any_cons, List.any_nil, Nat.reduceEqDiff, List.map_cons, List.map_nil, Option.map_some, Option.map_none, List.nil_append, ↓reduceIte, vcu, ↓vcd, h4]
      · simp -implicitDefEqProofs (disch := omega) only [List.any_cons, List.any_nil, Nat.reduceEqDiff, List.map_cons, List.map_nil, Option.map_some, Option.map_none, List.nil_append, ↓reduceIte, vcu, ↓vcd, h9]
      · simp -implicitDefEqProofs (disch := omega) only [List.any_cons, List.any_nil, Nat.reduceEqDiff, List.map_cons, List.map_nil, Option.map_some, Option.map_none, List.nil_append, ↓reduceIte, vcu, ↓vcd, h10]
      · simp -implicitDefEqProofs (disch := omega) only [List.any_cons, List.any_nil, Nat.reduceEqDiff, List.map_cons, List.map_nil, Option.map_some, Option.map_none, List.nil_append, ↓reduceIte, vcu, ↓vcd]
        rfl
  rintro _ a' τ8 ⟨rfl, ⟨f1, f2, f3, f4, f9, f10, f33⟩, s8⟩
  by_cases hF : Free s cs I O k
  · rw [decide_eq_true hF] at f33
    rw [if_pos hF] at hsucc
    have hg8 := s8 _ _ hg
    simp -implicitDefEqProofs (disch := omega) only [List.any_cons, List.any_nil, Nat.reduceEqDiff, List.map_cons, List.map_nil, Option.map_some, Option.map_none, List.nil_append, ↓reduceIte, vcu, ↓vcd, f1, f2, f3, f4, f9, f10, f33]
    refine r_lit el37 (out := #[.int .i64 (k : Int)]) (by first | kernel_rfl | (simp -implicitDefEqProofs (disch := omega) only [List.any_cons, List.any_nil, Nat.reduceEqDiff, List.map_cons, List.map_nil, Option.map_some, Option.map_none, List.nil_append, ↓reduceIte, vcu, ↓vcd, f10]; kernel_rfl)) (by rfl) fun e3 τ9 n9 s9 v9 => ?_
    refine r_pushI (g := g) (e := e3) (o := 0) (k := .i64) (xs := freeL s cs I O k) (ys := [(k : Int)]) (m := 1) (len := (freeL s cs I O k).length) el37 (by omega) sl37 (by simp -implicitDefEqProofs (disch := omega) only [List.any_cons, List.any_nil, Nat.reduceEqDiff, List.map_cons, List.map_nil, Option.map_some, Option.map_none, List.nil_append, ↓reduceIte, vcu, ↓vcd, f9]) (s9 _ _ hg8) rfl (by simp -implicitDefEqProofs (disch := omega) only [List.any_cons, List.any_nil, Nat.reduceEqDiff, List.map_cons, List.map_nil, Option.map_some, Option.map_none, List.nil_append, ↓reduceIte, vcu, ↓vcd]) (intsAt_own v9) rfl (by omega) fun g6 τ6 n6 k6 v6 => ?_
    rw [← hsucc] at v6
    have hle2 : (freeL s cs I O k).length + 1 = (freeL s cs I O (k + 1)).length := by rw [hsucc]; simp
    have hs9 := (hs.trans s8).trans s9
    simp -implicitDefEqProofs (disch := omega) only [List.any_cons, List.any_nil, Nat.reduceEqDiff, List.map_cons, List.map_nil, Option.map_some, Option.map_none, List.nil_append, ↓reduceIte, vcu, ↓vcd, f1, f2, f3, f4, f10, hle2]
    exact ⟨⟨trivial, trivial, trivial, trivial, trivial⟩, m - 1, by omega, k + 1, g6, by omega, by simp, rfl, k6.sub hs9 hn, v6, free_sub hs9 n6⟩
  · rw [decide_eq_false hF] at f33
    rw [if_neg hF, List.append_nil] at hsucc
    simp -implicitDefEqProofs (disch := omega) only [List.any_cons, List.any_nil, Nat.reduceEqDiff, List.map_cons, List.map_nil, Option.map_some, Option.map_none, List.nil_append, ↓reduceIte, vcu, ↓vcd, f1, f2, f3, f4, f9, f10, f33]
    exact ⟨⟨trivial, trivial, trivial, trivial, trivial⟩, m - 1, by omega, k + 1, g, by omega, by simp, by rw [hsucc], hs.trans s8, by rw [hsucc]; exact s8 _ _ hg, hn⟩
end Go.Proofs.Ytphacjkogompoaa

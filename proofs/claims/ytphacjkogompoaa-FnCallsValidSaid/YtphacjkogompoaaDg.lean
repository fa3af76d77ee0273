/- Idle lines, unused middle switches, calls that meet: the program. -/
import Derived.Test.YtphacjkogompoaaDe
import Derived.Test.YtphacjkogompoaaDa
set_option linter.unusedSimpArgs false
set_option linter.unusedVariables false
namespace Go.Proofs.Ytphacjkogompoaa
open Go Go.Abs Go.RowKit Go.Clos
variable {w0 : World}

theorem idleC_at (σ : AHeap) (b1 b2 : Nat) (I O : Int) (c : Cl) (h1 : σ b1 = some ⟨[.int .i64 I], false⟩) (h2 : σ b2 = some ⟨[.int .i64 O], false⟩) :
    ACall Try.prog w0 100 [.agg #[.int .i64 c.i, .int .i64 c.o, .int .i64 c.v], .pointer (some ⟨b1, 0, none⟩), .pointer (some ⟨b2, 0, none⟩)] σ fun r σ' => r = .bool (decide (c.i = I ∨ c.o = O)) ∧ σ' = σ := by
  refine acall_go mixed Try.func100 rfl good100 fun pr => ?_
  simp -implicitDefEqProofs (disch := omega) only [List.any_cons, List.any_nil, Nat.reduceEqDiff, List.map_cons, List.map_nil, Option.map_some, Option.map_none, List.nil_append, ↓reduceIte, vcu, ↓vcd]
  refine r_boxed fun g τ1 n1 s1 e1 => ?_
  replace e1 : τ1 g = some ⟨[.int .i64 c.i, .int .i64 c.o, .int .i64 c.v], false⟩ := e1
  have l1 : ld τ1 g (0 + 0) = some (.int .i64 c.i) := ld_of e1 rfl
  have l2 : ld τ1 g (0 + 1) = some (.int .i64 c.o) := ld_of e1 rfl
  have k1 : ld τ1 b1 0 = some (.int .i64 I) := ld_of (s1 _ _ h1) rfl
  have k2 : ld τ1 b2 0 = some (.int .i64 O) := ld_of (s1 _ _ h2) rfl
  by_cases q1 : c.i = I
  · simp -implicitDefEqProofs (disch := omega) only [List.any_cons, List.any_nil, Nat.reduceEqDiff, List.map_cons, List.map_nil, Option.map_some, Option.map_none, List.nil_append, ↓reduceIte, vcu, ↓vcd, l1, l2, k1, k2]
    refine fin_drop Try.results100 σ s1 ⟨?_, rfl⟩
    simp -implicitDefEqProofs (disch := omega) only [List.any_cons, List.any_nil, Nat.reduceEqDiff, List.map_cons, List.map_nil, Option.map_some, Option.map_none, List.nil_append, ↓reduceIte, vcu, ↓vcd]
    simp [q1]
  · simp -implicitDefEqProofs (disch := omega) only [List.any_cons, List.any_nil, Nat.reduceEqDiff, List.map_cons, List.map_nil, Option.map_some, Option.map_none, List.nil_append, ↓reduceIte, vcu, ↓vcd, l1, l2, k1, k2]
    refine fin_drop Try.results100 σ s1 ⟨?_, rfl⟩
    simp -implicitDefEqProofs (disch := omega) only [List.any_cons, List.any_nil, Nat.reduceEqDiff, List.map_cons, List.map_nil, Option.map_some, Option.map_none, List.nil_append, ↓reduceIte, vcu, ↓vcd]
    simp [q1]
theorem implIdle_at (σ : AHeap) (s : Sp) (h o : Nat) (cs : List Cl) (I O : Int) (hv : TrisAt σ h o cs) (hl : cs.length ≤ 1048576) (hS : SV s) :
    ACall Try.prog w0 81 [.agg #[.int .i64 s.O, .int .i64 s.E, .int .i64 s.M], .slice (some ⟨h, o, none⟩) cs.length 3, .int .i64 I, .int .i64 O] σ fun r σ' => r = .bool (decide (Lines s I O ∧ ¬ Busy cs I O)) ∧ σ' = σ := by
  refine acall_go mixed Try.func81 rfl good81 fun pr => ?_
  simp -implicitDefEqProofs (disch := omega) only [List.any_cons, List.any_nil, Nat.reduceEqDiff, List.map_cons, List.map_nil, Option.map_some, Option.map_none, List.nil_append, ↓reduceIte, vcu, ↓vcd]
  refine r_boxed fun b τ1 n1 s1 e1 => ?_
  replace e1 : τ1 b = some ⟨[.int .i64 s.O, .int .i64 s.E, .int .i64 s.M], false⟩ := e1
  refine r_boxed fun b1 τ2 n2 s2 e2 => ?_
  replace e2 : τ2 b1 = some ⟨[.int .i64 I], false⟩ := e2
  refine r_boxed fun b2 τ n3 s3 e3 => ?_
  replace e3 : τ b2 = some ⟨[.int .i64 O], false⟩ := e3
  have f1 := s3 _ _ (s2 _ _ e1)
  have f2 := s3 _ _ e2
  have s12 := s1.trans (s2.trans s3)
  have l3 : lds τ b 0 3 = some [.int .i64 s.O, .int .i64 s.E, .int .i64 s.M] := lds_three (ld_of f1 rfl) (ld_of f1 rfl) (ld_of f1 rfl)
  have li : ld τ b1 0 = some (.int .i64 I) := ld_of f2 rfl
  have lo : ld τ b2 0 = some (.int .i64 O) := ld_of e3 rfl
  simp -implicitDefEqProofs (disch := omega) only [List.any_cons, List.any_nil, Nat.reduceEqDiff, List.map_cons, List.map_nil, Option.map_some, Option.map_none, List.nil_append, ↓reduceIte, vcu, ↓vcd, l3, li, lo, co24]
  refine (hasLine_at τ s.O s.E s.M I hS).mono ?_
  rintro r _ ⟨rfl, rfl⟩
  rename_i τ
  by_cases hI : 0 ≤ I ∧ I ≤ s.O * s.E - 1
  case neg =>
    rw [decide_eq_false hI, decide_eq_false (fun hh : Lines s I O ∧ ¬ Busy cs I O => hI hh.1.1)]
    simp -implicitDefEqProofs (disch := omega) only [List.any_cons, List.any_nil, Nat.reduceEqDiff, List.map_cons, List.map_nil, Option.map_some, Option.map_none, List.nil_append, ↓reduceIte, vcu, ↓vcd, opK_some, Bool.not_false]
    refine fin_drop Try.results81 σ s12 ⟨?_, rfl⟩
    simp -implicitDefEqProofs (disch := omega) only [List.any_cons, List.any_nil, Nat.reduceEqDiff, List.map_cons, List.map_nil, Option.map_some, Option.map_none, List.nil_append, ↓reduceIte, vcu, ↓vcd]
  rw [decide_eq_true hI]
  simp -implicitDefEqProofs (disch := omega) only [List.any_cons, List.any_nil, Nat.reduceEqDiff, List.map_cons, List.map_nil, Option.map_some, Option.map_none, List.nil_append, ↓reduceIte, vcu, ↓vcd, opK_some, Bool.not_true, l3, li, lo, co24]
  refine (hasLine_at τ s.O s.E s.M O hS).mono ?_
  rintro r _ ⟨rfl, rfl⟩
  rename_i τ
  by_cases hO : 0 ≤ O ∧ O ≤ s.O * s.E - 1
  case neg =>
    rw [decide_eq_false hO, decide_eq_false (fun hh : Lines s I O ∧ ¬ Busy cs I O => hO hh.1.2)]
    simp -implicitDefEqProofs (disch := omega) only [List.any_cons, List.any_nil, Nat.reduceEqDiff, List.map_cons, List.map_nil, Option.map_some, Option.map_none, List.nil_append, ↓reduceIte, vcu, ↓vcd, opK_some, Bool.not_false]
    refine fin_drop Try.results81 σ s12 ⟨?_, rfl⟩
    simp -implicitDefEqProofs (disch := omega) only [List.any_cons, List.any_nil, Nat.reduceEqDiff, List.map_cons, List.map_nil, Option.map_some, Option.map_none, List.nil_append, ↓reduceIte, vcu, ↓vcd]
  rw [decide_eq_true hO]
  simp -implicitDefEqProofs (disch := omega) only [List.any_cons, List.any_nil, Nat.reduceEqDiff, List.map_cons, List.map_nil, Option.map_some, Option.map_none, List.nil_append, ↓reduceIte, vcu, ↓vcd, opK_some, Bool.not_true]
  refine (hasFn_at τ h o cs _ _ (fun c => c.i = I ∨ c.o = O) (hv.sub s12) hl fun c _ pw => idleC_at τ b1 b2 I O c f2 e3).mono ?_
  rintro r _ ⟨rfl, rfl⟩
  have hd : decide (Lines s I O ∧ ¬ Busy cs I O) = !decide (∃ c ∈ cs, c.i = I ∨ c.o = O) := by
    by_cases hh : ∃ c ∈ cs, c.i = I ∨ c.o = O
    · rw [decide_eq_true hh, decide_eq_false (fun hf : Lines s I O ∧ ¬ Busy cs I O => hf.2 hh)]; rfl
    · rw [decide_eq_false hh, decide_eq_true (show Lines s I O ∧ ¬ Busy cs I O from ⟨⟨hI, hO⟩, hh⟩)]; rfl
  rw [hd]
  simp -implicitDefEqProofs (disch := omega) only [List.any_cons, List.any_nil, Nat.reduceEqDiff, List.map_cons, List.map_nil, Option.map_some, Option.map_none, List.nil_append, ↓reduceIte, vcu, ↓vcd, opK_some]
  refine fin_drop Try.results81 σ s12 ⟨?_, rfl⟩
  simp -implicitDefEqProofs (disch := omega) only [List.any_cons, List.any_nil, Nat.reduceEqDiff, List.map_cons, List.map_nil, Option.map_some, Option.map_none, List.nil_append, ↓reduceIte, vcu, ↓vcd]

theorem unusedC_at (σ : AHeap) (b1 b2 : Nat) (k : Int) (c : Cl) (gf : Nat) (caps : Array Value) (P : Cl → Prop) [DecidablePred P] (h1 : σ b1 = some ⟨[.int .i64 k], false⟩) (h2 : σ b2 = some ⟨[.func (.func gf) #[] caps], false⟩)
    (hcl : ∀ pw τ, Sub σ τ → ACall Try.prog pw gf (.agg #[.int .i64 c.i, .int .i64 c.o, .int .i64 c.v] :: caps.toList) τ fun r σ' => r = .bool (decide (P c)) ∧ σ' = τ) :
    ACall Try.prog w0 101 [.agg #[.int .i64 c.i, .int .i64 c.o, .int .i64 c.v], .pointer (some ⟨b1, 0, none⟩), .pointer (some ⟨b2, 0, none⟩)] σ fun r σ' => r = .bool (decide (c.v = k ∧ P c)) ∧ σ' = σ := by
  refine acall_go mixed Try.func101 rfl good101 fun pr => ?_
  simp -implicitDefEqProofs (disch := omega) only [List.any_cons, List.any_nil, Nat.reduceEqDiff, List.map_cons, List.map_nil, Option.map_some, Option.map_none, List.nil_append, ↓reduceIte, vcu, ↓vcd]
  refine r_boxed fun g τ1 n1 s1 e1 => ?_
  replace e1 : τ1 g = some ⟨[.int .i64 c.i, .int .i64 c.o, .int .i64 c.v], false⟩ := e1
  have l1 : ld τ1 g (0 + 2) = some (.int .i64 c.v) := ld_of e1 rfl
  have l3 : lds τ1 g 0 3 = some [.int .i64 c.i, .int .i64 c.o, .int .i64 c.v] := lds_three (ld_of e1 rfl) (ld_of e1 rfl) (ld_of e1 rfl)
  have k1 : ld τ1 b1 0 = some (.int .i64 k) := ld_of (s1 _ _ h1) rfl
  have k2 : ld τ1 b2 0 = some (.func (.func gf) #[] caps) := ld_of (s1 _ _ h2) rfl
  by_cases q1 : c.v = k
  case neg =>
    rw [decide_eq_false (fun hh : c.v = k ∧ P c => q1 hh.1)]
    simp -implicitDefEqProofs (disch := omega) only [List.any_cons, List.any_nil, Nat.reduceEqDiff, List.map_cons, List.map_nil, Option.map_some, Option.map_none, List.nil_append, ↓reduceIte, vcu, ↓vcd, l1, l3, k1, k2]
    refine fin_drop Try.results101 σ s1 ⟨?_, rfl⟩
    simp -implicitDefEqProofs (disch := omega) only [List.any_cons, List.any_nil, Nat.reduceEqDiff, List.map_cons, List.map_nil, Option.map_some, Option.map_none, List.nil_append, ↓reduceIte, vcu, ↓vcd]
  have hd : decide (c.v = k ∧ P c) = decide (P c) := decide_eq_decide.2 ⟨fun hh => hh.2, fun hh => ⟨q1, hh⟩⟩
  rw [hd]
  simp -implicitDefEqProofs (disch := omega) only [List.any_cons, List.any_nil, Nat.reduceEqDiff, List.map_cons, List.map_nil, Option.map_some, Option.map_none, List.nil_append, ↓reduceIte, vcu, ↓vcd, l1, l3, k1, k2, co34]
  refine r_callv ⟨(gf, caps), by simp -implicitDefEqProofs (disch := omega) only [List.any_cons, List.any_nil, Nat.reduceEqDiff, List.map_cons, List.map_nil, Option.map_some, Option.map_none, List.nil_append, ↓reduceIte, vcu, ↓vcd], ?_⟩
  simp -implicitDefEqProofs (disch := omega) only [List.any_cons, List.any_nil, Nat.reduceEqDiff, List.map_cons, List.map_nil, Option.map_some, Option.map_none, List.nil_append, ↓reduceIte, vcu, ↓vcd]
  refine (hcl _ τ1 s1).mono ?_
  rintro r _ ⟨rfl, rfl⟩
  simp -implicitDefEqProofs (disch := omega) only [List.any_cons, List.any_nil, Nat.reduceEqDiff, List.map_cons, List.map_nil, Option.map_some, Option.map_none, List.nil_append, ↓reduceIte, vcu, ↓vcd, opK_some]
  refine fin_drop Try.results101 σ s1 ⟨?_, rfl⟩
  simp -implicitDefEqProofs (disch := omega) only [List.any_cons, List.any_nil, Nat.reduceEqDiff, List.map_cons, List.map_nil, Option.map_some, Option.map_none, List.nil_append, ↓reduceIte, vcu, ↓vcd]
theorem firstFn_at (σ : AHeap) (h o : Nat) (cs : List Cl) (gf : Nat) (caps : Array Value) (P : Cl → Prop) [DecidablePred P] (U : List Int) (N : Nat) (hv : TrisAt σ h o cs) (hl : cs.length ≤ 1048576)
    (hcl : ∀ c ∈ cs, ∀ pw τ, Sub σ τ → ACall Try.prog pw gf (.agg #[.int .i64 c.i, .int .i64 c.o, .int .i64 c.v] :: caps.toList) τ fun r σ' => r = .bool (decide (P c)) ∧ σ' = τ)
    (hU : ∀ v : Int, (∃ c ∈ cs, c.v = v ∧ P c) ↔ v ∈ U) (hN : 0 ≤ firstN U N 0) (hN5 : N ≤ 5) :
    ACall Try.prog w0 82 [.slice (some ⟨h, o, none⟩) cs.length 3, .func (.func gf) #[] caps] σ fun r σ' => r = .int .i64 (firstN U N 0) ∧ σ' = σ := by
  refine acall_go mixed Try.func82 rfl good82 fun pr => ?_
  simp -implicitDefEqProofs (disch := omega) only [List.any_cons, List.any_nil, Nat.reduceEqDiff, List.map_cons, List.map_nil, Option.map_some, Option.map_none, List.nil_append, ↓reduceIte, vcu, ↓vcd]
  refine r_boxed fun b τ1 n1 s1 e1 => ?_
  replace e1 : τ1 b = some ⟨[.func (.func gf) #[] caps], false⟩ := e1
  simp -implicitDefEqProofs (disch := omega) only [List.any_cons, List.any_nil, Nat.reduceEqDiff, List.map_cons, List.map_nil, Option.map_some, Option.map_none, List.nil_append, ↓reduceIte, vcu, ↓vcd]
  refine r_new ze3 fun v τ2 n2 s2 e2 => ?_
  replace e2 : τ2 v = some ⟨[.int .i64 0], false⟩ := e2
  refine r_set (g := v) (i := 0) (by simp -implicitDefEqProofs (disch := omega) only [List.any_cons, List.any_nil, Nat.reduceEqDiff, List.map_cons, List.map_nil, Option.map_some, Option.map_none, List.nil_append, ↓reduceIte, vcu, ↓vcd]) (by simp -implicitDefEqProofs (disch := omega) only [List.any_cons, List.any_nil, Nat.reduceEqDiff, List.map_cons, List.map_nil, Option.map_some, Option.map_none, List.nil_append, ↓reduceIte, vcu, ↓vcd]; rfl) co3 (by simp -implicitDefEqProofs (disch := omega) only [List.any_cons, List.any_nil, Nat.reduceEqDiff, List.map_cons, List.map_nil, Option.map_some, Option.map_none, List.nil_append, ↓reduceIte, vcu, ↓vcd]; rfl) e2 (by simp) fun τ k3 e3 => ?_
  simp -implicitDefEqProofs (disch := omega) only [List.any_cons, List.any_nil, Nat.reduceEqDiff, List.map_cons, List.map_nil, Option.map_some, Option.map_none, List.nil_append, ↓reduceIte, vcu, ↓vcd] at e3
  replace e3 : τ v = some ⟨[.int .i64 0], false⟩ := e3
  have hbv : b ≠ v := ne_of' n2 e1
  have s23 : Sub τ1 τ := k3.sub s2 n2
  have sτ := s1.trans s23
  have nv : σ v = none := free_sub s1 n2
  have eb := s23 _ _ e1
  simp -implicitDefEqProofs (disch := omega) only [List.any_cons, List.any_nil, Nat.reduceEqDiff, List.map_cons, List.map_nil, Option.map_some, Option.map_none, List.nil_append, ↓reduceIte, vcu, ↓vcd]
  refine vc_loop_c mixed (by kernel_rfl) [0, 3, 5] (fun m a τ' => ∃ k : Nat, m + k = N ∧ Kept v τ τ' ∧ τ' v = some ⟨[.int .i64 (k : Int)], false⟩ ∧ firstN U N 0 = firstN U m k) N ⟨0, by simp, Kept.refl _ _, e3, rfl⟩ ?_
  rintro m a τ' hc ⟨k, hk, hkp, ev', hf⟩
  simp -implicitDefEqProofs (disch := omega) only [List.any_cons, List.any_nil, Nat.reduceEqDiff, List.map_cons, List.map_nil, Option.map_some, Option.map_none, List.nil_append, ↓reduceIte, vcu, ↓vcd] at hc
  obtain ⟨h0, h3, h5, -⟩ := hc
  have hs' : Sub σ τ' := hkp.sub sτ nv
  have eb' := hkp.at eb hbv
  have hhas := hasFn_at (w0 := w0) τ' h o cs 101 #[.pointer (some ⟨v, 0, none⟩), .pointer (some ⟨b, 0, none⟩)] (fun c => c.v = (k : Int) ∧ P c) (hv.sub hs') hl fun c hc pw => unusedC_at τ' v b k c gf caps P ev' eb' fun pw τ9 s9 => hcl c hc pw τ9 (hs'.trans s9)
  have hiff := hU (k : Int)
  simp -implicitDefEqProofs (disch := omega) only [List.any_cons, List.any_nil, Nat.reduceEqDiff, List.map_cons, List.map_nil, Option.map_some, Option.map_none, List.nil_append, ↓reduceIte, vcu, ↓vcd, h0, h3, h5]
  refine hhas.mono ?_
  rintro r τ9 ⟨rfl, e9⟩
  subst e9
  cases m with
  | zero =>
    rw [hf] at hN
    unfold firstN at hN
    omega
  | succ m =>
    rw [firstN_step] at hf
    by_cases hm : (k : Int) ∈ U
    · rw [if_pos hm] at hf
      rw [decide_eq_true (hiff.2 hm)]
      have lv : ld τ9 v 0 = some (.int .i64 (k : Int)) := ld_of ev' rfl
      simp -implicitDefEqProofs (disch := omega) only [List.any_cons, List.any_nil, Nat.reduceEqDiff, List.map_cons, List.map_nil, Option.map_some, Option.map_none, List.nil_append, ↓reduceIte, vcu, ↓vcd, opK_some, h0, h3, h5, lv]
      refine r_set (g := v) (i := 0) (by simp -implicitDefEqProofs (disch := omega) only [List.any_cons, List.any_nil, Nat.reduceEqDiff, List.map_cons, List.map_nil, Option.map_some, Option.map_none, List.nil_append, ↓reduceIte, vcu, ↓vcd, h5]) (by simp -implicitDefEqProofs (disch := omega) only [List.any_cons, List.any_nil, Nat.reduceEqDiff, List.map_cons, List.map_nil, Option.map_some, Option.map_none, List.nil_append, ↓reduceIte, vcu, ↓vcd]; rfl) co3 (by simp -implicitDefEqProofs (disch := omega) only [List.any_cons, List.any_nil, Nat.reduceEqDiff, List.map_cons, List.map_nil, Option.map_some, Option.map_none, List.nil_append, ↓reduceIte, vcu, ↓vcd]; rfl) ev' (by simp) fun τ8 k8 e8 => ?_
      simp -implicitDefEqProofs (disch := omega) only [List.any_cons, List.any_nil, Nat.reduceEqDiff, List.map_cons, List.map_nil, Option.map_some, Option.map_none, List.nil_append, ↓reduceIte, vcu, ↓vcd] at e8
      replace e8 : τ8 v = some ⟨[.int .i64 ((k : Int) + 1)], false⟩ := e8
      simp -implicitDefEqProofs (disch := omega) only [List.any_cons, List.any_nil, Nat.reduceEqDiff, List.map_cons, List.map_nil, Option.map_some, Option.map_none, List.nil_append, ↓reduceIte, vcu, ↓vcd, h0, h3, h5]
      exact ⟨⟨trivial, trivial, trivial, trivial⟩, m, by omega, k + 1, by omega, hkp.trans k8, by rw [e8]; simp, hf⟩
    · rw [if_neg hm] at hf
      rw [decide_eq_false fun hh => hm (hiff.1 hh), hf]
      have lv : ld τ9 v 0 = some (.int .i64 (k : Int)) := ld_of ev' rfl
      simp -implicitDefEqProofs (disch := omega) only [List.any_cons, List.any_nil, Nat.reduceEqDiff, List.map_cons, List.map_nil, Option.map_some, Option.map_none, List.nil_append, ↓reduceIte, vcu, ↓vcd, opK_some, h0, h3, h5, lv]
      refine fin_drop Try.results82 σ hs' ⟨?_, rfl⟩
      simp -implicitDefEqProofs (disch := omega) only [List.any_cons, List.any_nil, Nat.reduceEqDiff, List.map_cons, List.map_nil, Option.map_some, Option.map_none, List.nil_append, ↓reduceIte, vcu, ↓vcd]
theorem fromC_at (σ : AHeap) (b1 b2 : Nat) (s : Sp) (I : Int) (c : Cl) (h1 : σ b1 = some ⟨[.int .i64 s.O, .int .i64 s.E, .int .i64 s.M], false⟩) (h2 : σ b2 = some ⟨[.int .i64 I], false⟩) (hE : 1 ≤ s.E) (hI : 0 ≤ I ∧ I ≤ 1000) (hc : Nng c) :
    ACall Try.prog w0 83 [.agg #[.int .i64 c.i, .int .i64 c.o, .int .i64 c.v], .pointer (some ⟨b1, 0, none⟩), .pointer (some ⟨b2, 0, none⟩)] σ fun r σ' => r = .bool (decide (c.i / s.E = I / s.E)) ∧ σ' = σ := by
  obtain ⟨⟨c1, c2⟩, c3, c4⟩ := hc
  refine acall_go mixed Try.func83 rfl good83 fun pr => ?_
  simp -implicitDefEqProofs (disch := omega) only [List.any_cons, List.any_nil, Nat.reduceEqDiff, List.map_cons, List.map_nil, Option.map_some, Option.map_none, List.nil_append, ↓reduceIte, vcu, ↓vcd]
  refine r_boxed fun g τ1 n1 s1 e1 => ?_
  replace e1 : τ1 g = some ⟨[.int .i64 c.i, .int .i64 c.o, .int .i64 c.v], false⟩ := e1
  have l1 : ld τ1 g (0 + 0) = some (.int .i64 c.i) := ld_of e1 rfl
  have k1 : ld τ1 b1 (0 + 1) = some (.int .i64 s.E) := ld_of (s1 _ _ h1) rfl
  have k2 : ld τ1 b2 0 = some (.int .i64 I) := ld_of (s1 _ _ h2) rfl
  simp -implicitDefEqProofs (disch := omega) only [List.any_cons, List.any_nil, Nat.reduceEqDiff, List.map_cons, List.map_nil, Option.map_some, Option.map_none, List.nil_append, ↓reduceIte, vcu, ↓vcd, l1, k1, k2]
  refine fin_drop Try.results83 σ s1 ⟨?_, rfl⟩
  simp -implicitDefEqProofs (disch := omega) only [List.any_cons, List.any_nil, Nat.reduceEqDiff, List.map_cons, List.map_nil, Option.map_some, Option.map_none, List.nil_append, ↓reduceIte, vcu, ↓vcd]
theorem toC_at (σ : AHeap) (b1 b2 : Nat) (s : Sp) (O : Int) (c : Cl) (h1 : σ b1 = some ⟨[.int .i64 s.O, .int .i64 s.E, .int .i64 s.M], false⟩) (h2 : σ b2 = some ⟨[.int .i64 O], false⟩) (hE : 1 ≤ s.E) (hO : 0 ≤ O ∧ O ≤ 1000) (hc : Nng c) :
    ACall Try.prog w0 84 [.agg #[.int .i64 c.i, .int .i64 c.o, .int .i64 c.v], .pointer (some ⟨b1, 0, none⟩), .pointer (some ⟨b2, 0, none⟩)] σ fun r σ' => r = .bool (decide (c.o / s.E = O / s.E)) ∧ σ' = σ := by
  obtain ⟨⟨c1, c2⟩, c3, c4⟩ := hc
  refine acall_go mixed Try.func84 rfl good84 fun pr => ?_
  simp -implicitDefEqProofs (disch := omega) only [List.any_cons, List.any_nil, Nat.reduceEqDiff, List.map_cons, List.map_nil, Option.map_some, Option.map_none, List.nil_append, ↓reduceIte, vcu, ↓vcd]
  refine r_boxed fun g τ1 n1 s1 e1 => ?_
  replace e1 : τ1 g = some ⟨[.int .i64 c.i, .int .i64 c.o, .int .i64 c.v], false⟩ := e1
  have l1 : ld τ1 g (0 + 1) = some (.int .i64 c.o) := ld_of e1 rfl
  have k1 : ld τ1 b1 (0 + 1) = some (.int .i64 s.E) := ld_of (s1 _ _ h1) rfl
  have k2 : ld τ1 b2 0 = some (.int .i64 O) := ld_of (s1 _ _ h2) rfl
  simp -implicitDefEqProofs (disch := omega) only [List.any_cons, List.any_nil, Nat.reduceEqDiff, List.map_cons, List.map_nil, Option.map_some, Option.map_none, List.nil_append, ↓reduceIte, vcu, ↓vcd, l1, k1, k2]
  refine fin_drop Try.results84 σ s1 ⟨?_, rfl⟩
  simp -implicitDefEqProofs (disch := omega) only [List.any_cons, List.any_nil, Nat.reduceEqDiff, List.map_cons, List.map_nil, Option.map_some, Option.map_none, List.nil_append, ↓reduceIte, vcu, ↓vcd]

set_option maxRecDepth 4000 in
theorem meeting_at (σ : AHeap) (s : Sp) (h o : Nat) (cs : List Cl) (kk : Nat) (hv : TrisAt σ h o cs) (hl : cs.length ≤ 1048576) (hE : 1 ≤ s.E) (hn : ∀ k, k < cs.length → Nng (gc cs k)) (hkk : kk < cs.length) :
    ACall Try.prog w0 85 [.agg #[.int .i64 s.O, .int .i64 s.E, .int .i64 s.M], .slice (some ⟨h, o, none⟩) cs.length 3, .int .i64 (kk : Int)] σ fun r σ' => σ' = σ ∧ ∃ z : Int, r = .int .i64 z ∧
      ((z = -1 ∧ ∀ m, m < cs.length → m ≠ kk → ¬ Hit s (gc cs kk) (gc cs m)) ∨ ∃ m : Nat, z = m ∧ m < cs.length ∧ m ≠ kk ∧ Hit s (gc cs kk) (gc cs m)) := by
  refine acall_go mixed Try.func85 rfl good85 fun pr => ?_
  simp -implicitDefEqProofs (disch := omega) only [List.any_cons, List.any_nil, Nat.reduceEqDiff, List.map_cons, List.map_nil, Option.map_some, Option.map_none, List.nil_append, ↓reduceIte, vcu, ↓vcd]
  refine r_boxed fun b τ nb s1 e1 => ?_
  replace e1 : τ b = some ⟨[.int .i64 s.O, .int .i64 s.E, .int .i64 s.M], false⟩ := e1
  simp -implicitDefEqProofs (disch := omega) only [List.any_cons, List.any_nil, Nat.reduceEqDiff, List.map_cons, List.map_nil, Option.map_some, Option.map_none, List.nil_append, ↓reduceIte, vcu, ↓vcd]
  refine vc_loop_c mixed (by kernel_rfl) [1, 2, 3, 9, 10] (fun m a τ' => ∃ k : Nat, m + k = cs.length ∧ a 11 = .int .i64 k ∧ Sub τ τ' ∧ ∀ j, j < k → j ≠ kk → ¬ Hit s (gc cs kk) (gc cs j)) cs.length ⟨0, by simp, rfl, Sub.refl _, fun j hj => absurd hj (by omega)⟩ ?_
  rintro m a τ1 hc ⟨k, hk, h11, hs, hN⟩
  simp -implicitDefEqProofs (disch := omega) only [List.any_cons, List.any_nil, Nat.reduceEqDiff, List.map_cons, List.map_nil, Option.map_some, Option.map_none, List.nil_append, ↓reduceIte, vcu, ↓vcd] at hc
  obtain ⟨h1, h2, h3, h9, h10, -⟩ := hc
  by_cases hlt : k < cs.length
  case neg =>
    obtain rfl : k = cs.length := by omega
    simp -implicitDefEqProofs (disch := omega) only [List.any_cons, List.any_nil, Nat.reduceEqDiff, List.map_cons, List.map_nil, Option.map_some, Option.map_none, List.nil_append, ↓reduceIte, vcu, ↓vcd, h1, h2, h3, h9, h10, h11]
    refine fin_drop Try.results85 σ (s1.trans hs) ⟨rfl, -1, ?_, .inl ⟨rfl, hN⟩⟩
    simp -implicitDefEqProofs (disch := omega) only [List.any_cons, List.any_nil, Nat.reduceEqDiff, List.map_cons, List.map_nil, Option.map_some, Option.map_none, List.nil_append, ↓reduceIte, vcu, ↓vcd]
  have hx := ((hv.sub s1).sub hs).all hlt
  have hgk : cs.getD k cl0 = gc cs k := rfl
  rw [hgk] at hx
  have hnk := hn k hlt
  have hnkk := hn kk hkk
  generalize hcc : gc cs k = c at hx hnk
  obtain ⟨ci, co, cv⟩ := c
  dsimp only at hx
  simp -implicitDefEqProofs (disch := omega) only [List.any_cons, List.any_nil, Nat.reduceEqDiff, List.map_cons, List.map_nil, Option.map_some, Option.map_none, List.nil_append, ↓reduceIte, vcu, ↓vcd, h1, h2, h3, h9, h10, h11, hx, co34]
  refine r_new ze34 fun g τ2a ng sa ea => ?_
  replace ea : τ2a g = some ⟨[.int .i64 0, .int .i64 0, .int .i64 0], false⟩ := ea
  simp -implicitDefEqProofs (disch := omega) only [List.any_cons, List.any_nil, Nat.reduceEqDiff, List.map_cons, List.map_nil, Option.map_some, Option.map_none, List.nil_append, ↓reduceIte, vcu, ↓vcd, h1, h2, h3, h9, h10, h11]
  refine r_sets (g := g) (i := 0) (C := [.int .i64 0, .int .i64 0, .int .i64 0]) (by simp -implicitDefEqProofs (disch := omega) only [List.any_cons, List.any_nil, Nat.reduceEqDiff, List.map_cons, List.map_nil, Option.map_some, Option.map_none, List.nil_append, ↓reduceIte, vcu, ↓vcd]) (by simp -implicitDefEqProofs (disch := omega) only [List.any_cons, List.any_nil, Nat.reduceEqDiff, List.map_cons, List.map_nil, Option.map_some, Option.map_none, List.nil_append, ↓reduceIte, vcu, ↓vcd, co34]; rfl) (by simp -implicitDefEqProofs (disch := omega) only [List.any_cons, List.any_nil, Nat.reduceEqDiff, List.map_cons, List.map_nil, Option.map_some, Option.map_none, List.nil_append, ↓reduceIte, vcu, ↓vcd]; rfl) (by simp -implicitDefEqProofs (disch := omega) only [List.any_cons, List.any_nil, Nat.reduceEqDiff, List.map_cons, List.map_nil, Option.map_some, Option.map_none, List.nil_append, ↓reduceIte, vcu, ↓vcd]; exact Nat.zero_lt_succ _) ea (by simp -implicitDefEqProofs (disch := omega) only [List.any_cons, List.any_nil, Nat.reduceEqDiff, List.map_cons, List.map_nil, Option.map_some, Option.map_none, List.nil_append, ↓reduceIte, vcu, ↓vcd]; exact Nat.le_refl _) fun τ2 k2 e2 => ?_
  replace e2 : τ2 g = some ⟨[.int .i64 ci, .int .i64 co, .int .i64 cv], false⟩ := e2
  have s2 := k2.sub sa ng
  have hs2 := hs.trans s2
  have f1 := hs2 _ _ e1
  have l3 : lds τ2 b 0 3 = some [.int .i64 s.O, .int .i64 s.E, .int .i64 s.M] := lds_three (ld_of f1 rfl) (ld_of f1 rfl) (ld_of f1 rfl)
  have lg : lds τ2 g 0 3 = some [.int .i64 ci, .int .i64 co, .int .i64 cv] := lds_three (ld_of e2 rfl) (ld_of e2 rfl) (ld_of e2 rfl)
  have hy := ((hv.sub s1).sub hs2).all hkk
  have hgkk : cs.getD kk cl0 = gc cs kk := rfl
  rw [hgkk] at hy
  by_cases hne : k = kk
  · subst hne
    simp -implicitDefEqProofs (disch := omega) only [List.any_cons, List.any_nil, Nat.reduceEqDiff, List.map_cons, List.map_nil, Option.map_some, Option.map_none, List.nil_append, ↓reduceIte, vcu, ↓vcd, h1, h2, h3, h9, h10, h11, ne_eq, not_true_eq_false]
    refine ⟨⟨trivial, trivial, trivial, trivial, trivial, trivial⟩, m - 1, by omega, k + 1, by omega, by simp, hs2, fun j hj hjk => hN j (by omega) hjk⟩
  · have hnei : ¬ ((k : Int) = (kk : Int)) := by omega
    simp -implicitDefEqProofs (disch := omega) only [List.any_cons, List.any_nil, Nat.reduceEqDiff, List.map_cons, List.map_nil, Option.map_some, Option.map_none, List.nil_append, ↓reduceIte, vcu, ↓vcd, h1, h2, h3, h9, h10, h11, ne_eq, hnei, not_false_eq_true, l3, lg, hy, co34, co24, Int.toNat_natCast]
    rw [r_callq]
    refine ⟨_, collide_at τ2 s (gc cs kk) ⟨ci, co, cv⟩ hE hnkk hnk, ?_⟩
    by_cases hH : Hit s (gc cs kk) ⟨ci, co, cv⟩
    · rw [decide_eq_true hH]
      simp -implicitDefEqProofs (disch := omega) only [List.any_cons, List.any_nil, Nat.reduceEqDiff, List.map_cons, List.map_nil, Option.map_some, Option.map_none, List.nil_append, ↓reduceIte, vcu, ↓vcd, h1, h2, h3, h9, h10, h11]
      refine fin_drop Try.results85 σ (s1.trans hs2) ⟨rfl, k, ?_, .inr ⟨k, rfl, hlt, hne, by rw [hcc]; exact hH⟩⟩
      simp -implicitDefEqProofs (disch := omega) only [List.any_cons, List.any_nil, Nat.reduceEqDiff, List.map_cons, List.map_nil, Option.map_some, Option.map_none, List.nil_append, ↓reduceIte, vcu, ↓vcd]
    · rw [decide_eq_false hH]
      simp -implicitDefEqProofs (disch := omega) only [List.any_cons, List.any_nil, Nat.reduceEqDiff, List.map_cons, List.map_nil, Option.map_some, Option.map_none, List.nil_append, ↓reduceIte, vcu, ↓vcd, h1, h2, h3, h9, h10, h11]
      refine ⟨⟨trivial, trivial, trivial, trivial, trivial, trivial⟩, m - 1, by omega, k + 1, by omega, by simp, hs2, fun j hj hjk => ?_⟩
      by_cases e : j = k
      · subst e; rw [hcc]; exact hH
      · exact hN j (by omega) hjk
end Go.Proofs.Ytphacjkogompoaa

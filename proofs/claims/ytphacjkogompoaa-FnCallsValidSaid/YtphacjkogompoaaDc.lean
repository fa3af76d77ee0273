/- Searches by a function; calls that fit; CallsValid of the program. -/
import Derived.Test.YtphacjkogompoaaDb
set_option linter.unusedSimpArgs false
set_option linter.unusedVariables false
namespace Go.Proofs.Ytphacjkogompoaa
open Go Go.Abs Go.RowKit Go.Clos
variable {w0 : World}

theorem indexFn_at (σ : AHeap) (h o : Nat) (cs : List Cl) (gf : Nat) (caps : Array Value) (P : Cl → Prop) [DecidablePred P] (hv : TrisAt σ h o cs) (hl : cs.length ≤ 1048576)
    (hcl : ∀ c ∈ cs, ∀ pw, ACall Try.prog pw gf (.agg #[.int .i64 c.i, .int .i64 c.o, .int .i64 c.v] :: caps.toList) σ fun r σ' => r = .bool (decide (P c)) ∧ σ' = σ) :
    ACall Try.prog w0 99 [.slice (some ⟨h, o, none⟩) cs.length 3, .func (.func gf) #[] caps] σ fun r σ' => σ' = σ ∧
      ((r = .int .i64 (-1) ∧ ∀ c ∈ cs, ¬ P c) ∨ ∃ k : Nat, r = .int .i64 k ∧ k < cs.length ∧ P (gc cs k) ∧ ∀ c ∈ cs.take k, ¬ P c) := by
  refine acall_go mixed Try.func99 rfl good99 fun pr => ?_
  simp -implicitDefEqProofs (disch := omega) only [List.any_cons, List.any_nil, Nat.reduceEqDiff, List.map_cons, List.map_nil, Option.map_some, Option.map_none, List.nil_append, ↓reduceIte, vcu, ↓vcd]
  refine vc_loop_c mixed (by kernel_rfl) [0, 1, 7] (fun m a τ => ∃ k : Nat, m + k = cs.length ∧ a 8 = .int .i64 k ∧ τ = σ ∧ ∀ c ∈ cs.take k, ¬ P c) cs.length ⟨0, by simp, rfl, rfl, by simp⟩ ?_
  rintro m a τ hc ⟨k, hk, h8, rfl, hup⟩
  simp -implicitDefEqProofs (disch := omega) only [List.any_cons, List.any_nil, Nat.reduceEqDiff, List.map_cons, List.map_nil, Option.map_some, Option.map_none, List.nil_append, ↓reduceIte, vcu, ↓vcd] at hc
  obtain ⟨h0, h1, h7, -⟩ := hc
  by_cases hlt : k < cs.length
  · have hx := hv.all hlt
    have ht := take_gc hlt
    have hm := gc_mem hlt
    have hgk : cs.getD k cl0 = gc cs k := rfl
    rw [hgk] at hx
    simp -implicitDefEqProofs (disch := omega) only [List.any_cons, List.any_nil, Nat.reduceEqDiff, List.map_cons, List.map_nil, Option.map_some, Option.map_none, List.nil_append, ↓reduceIte, vcu, ↓vcd, h0, h1, h7, h8, hx, co34]
    refine r_callv ⟨(gf, caps), by simp -implicitDefEqProofs (disch := omega) only [List.any_cons, List.any_nil, Nat.reduceEqDiff, List.map_cons, List.map_nil, Option.map_some, Option.map_none, List.nil_append, ↓reduceIte, vcu, ↓vcd, h1], ?_⟩
    simp -implicitDefEqProofs (disch := omega) only [List.any_cons, List.any_nil, Nat.reduceEqDiff, List.map_cons, List.map_nil, Option.map_some, Option.map_none, List.nil_append, ↓reduceIte, vcu, ↓vcd]
    refine (hcl _ hm _).mono ?_
    rintro r _ ⟨rfl, rfl⟩
    by_cases hB : P (gc cs k)
    · rw [decide_eq_true hB]
      simp -implicitDefEqProofs (disch := omega) only [List.any_cons, List.any_nil, Nat.reduceEqDiff, List.map_cons, List.map_nil, Option.map_some, Option.map_none, List.nil_append, ↓reduceIte, vcu, ↓vcd, opK_some, h0, h1, h7, h8]
      refine fin_one Try.results99 ⟨rfl, .inr ⟨k, ?_, hlt, hB, hup⟩⟩
      simp -implicitDefEqProofs (disch := omega) only [List.any_cons, List.any_nil, Nat.reduceEqDiff, List.map_cons, List.map_nil, Option.map_some, Option.map_none, List.nil_append, ↓reduceIte, vcu, ↓vcd]
    · rw [decide_eq_false hB]
      simp -implicitDefEqProofs (disch := omega) only [List.any_cons, List.any_nil, Nat.reduceEqDiff, List.map_cons, List.map_nil, Option.map_some, Option.map_none, List.nil_append, ↓reduceIte, vcu, ↓vcd, opK_some, h0, h1, h7, h8]
      refine ⟨⟨trivial, trivial, trivial, trivial⟩, m - 1, by omega, k + 1, by omega, by simp, trivial, fun c hc => ?_⟩
      rw [ht] at hc
      rcases List.mem_append.1 hc with hc | hc
      · exact hup c hc
      · rw [List.mem_singleton] at hc; subst hc; exact hB
  · simp -implicitDefEqProofs (disch := omega) only [List.any_cons, List.any_nil, Nat.reduceEqDiff, List.map_cons, List.map_nil, Option.map_some, Option.map_none, List.nil_append, ↓reduceIte, vcu, ↓vcd, h0, h1, h7, h8]
    obtain rfl : k = cs.length := by omega
    rw [List.take_length] at hup
    refine fin_one Try.results99 ⟨rfl, .inl ⟨?_, hup⟩⟩
    simp -implicitDefEqProofs (disch := omega) only [List.any_cons, List.any_nil, Nat.reduceEqDiff, List.map_cons, List.map_nil, Option.map_some, Option.map_none, List.nil_append, ↓reduceIte, vcu, ↓vcd]
theorem hasFn_at (σ : AHeap) (h o : Nat) (cs : List Cl) (gf : Nat) (caps : Array Value) (P : Cl → Prop) [DecidablePred P] (hv : TrisAt σ h o cs) (hl : cs.length ≤ 1048576)
    (hcl : ∀ c ∈ cs, ∀ pw, ACall Try.prog pw gf (.agg #[.int .i64 c.i, .int .i64 c.o, .int .i64 c.v] :: caps.toList) σ fun r σ' => r = .bool (decide (P c)) ∧ σ' = σ) :
    ACall Try.prog w0 96 [.slice (some ⟨h, o, none⟩) cs.length 3, .func (.func gf) #[] caps] σ fun r σ' => r = .bool (decide (∃ c ∈ cs, P c)) ∧ σ' = σ := by
  refine acall_go mixed Try.func96 rfl good96 fun pr => ?_
  simp -implicitDefEqProofs (disch := omega) only [List.any_cons, List.any_nil, Nat.reduceEqDiff, List.map_cons, List.map_nil, Option.map_some, Option.map_none, List.nil_append, ↓reduceIte, vcu, ↓vcd]
  refine (indexFn_at σ h o cs gf caps P hv hl hcl).mono ?_
  rintro r _ ⟨rfl, ⟨rfl, hall⟩ | ⟨k, rfl, hk, hP, -⟩⟩
  · rw [decide_eq_false (fun ⟨c, hc, hP⟩ => hall c hc hP)]
    simp -implicitDefEqProofs (disch := omega) only [List.any_cons, List.any_nil, Nat.reduceEqDiff, List.map_cons, List.map_nil, Option.map_some, Option.map_none, List.nil_append, ↓reduceIte, vcu, ↓vcd, opK_some]
    refine fin_one Try.results96 ⟨?_, rfl⟩
    simp -implicitDefEqProofs (disch := omega) only [List.any_cons, List.any_nil, Nat.reduceEqDiff, List.map_cons, List.map_nil, Option.map_some, Option.map_none, List.nil_append, ↓reduceIte, vcu, ↓vcd]
    rfl
  · rw [decide_eq_true ⟨gc cs k, gc_mem hk, hP⟩]
    simp -implicitDefEqProofs (disch := omega) only [List.any_cons, List.any_nil, Nat.reduceEqDiff, List.map_cons, List.map_nil, Option.map_some, Option.map_none, List.nil_append, ↓reduceIte, vcu, ↓vcd, opK_some]
    refine fin_one Try.results96 ⟨?_, rfl⟩
    simp -implicitDefEqProofs (disch := omega) only [List.any_cons, List.any_nil, Nat.reduceEqDiff, List.map_cons, List.map_nil, Option.map_some, Option.map_none, List.nil_append, ↓reduceIte, vcu, ↓vcd]
    have : (0 : Int) ≤ (k : Int) := by omega
    rw [decide_eq_true this]

theorem fitsC_at (σ : AHeap) (b1 b2 : Nat) (s : Sp) (c d : Cl) (h1 : σ b1 = some ⟨[.int .i64 s.O, .int .i64 s.E, .int .i64 s.M], false⟩) (h2 : σ b2 = some ⟨[.int .i64 c.i, .int .i64 c.o, .int .i64 c.v], false⟩) (hE : 1 ≤ s.E) (hc : Nng c) (hd : Nng d) :
    ACall Try.prog w0 97 [.agg #[.int .i64 d.i, .int .i64 d.o, .int .i64 d.v], .pointer (some ⟨b1, 0, none⟩), .pointer (some ⟨b2, 0, none⟩)] σ fun r σ' => r = .bool (decide (Hit s c d)) ∧ σ' = σ := by
  refine acall_go mixed Try.func97 rfl good97 fun pr => ?_
  simp -implicitDefEqProofs (disch := omega) only [List.any_cons, List.any_nil, Nat.reduceEqDiff, List.map_cons, List.map_nil, Option.map_some, Option.map_none, List.nil_append, ↓reduceIte, vcu, ↓vcd]
  refine r_boxed fun g τ n1 s1 e1 => ?_
  replace e1 : τ g = some ⟨[.int .i64 d.i, .int .i64 d.o, .int .i64 d.v], false⟩ := e1
  have l1 : lds τ b1 0 3 = some [.int .i64 s.O, .int .i64 s.E, .int .i64 s.M] := lds_three (ld_of (s1 _ _ h1) rfl) (ld_of (s1 _ _ h1) rfl) (ld_of (s1 _ _ h1) rfl)
  have l2 : lds τ b2 0 3 = some [.int .i64 c.i, .int .i64 c.o, .int .i64 c.v] := lds_three (ld_of (s1 _ _ h2) rfl) (ld_of (s1 _ _ h2) rfl) (ld_of (s1 _ _ h2) rfl)
  have l3 : lds τ g 0 3 = some [.int .i64 d.i, .int .i64 d.o, .int .i64 d.v] := lds_three (ld_of e1 rfl) (ld_of e1 rfl) (ld_of e1 rfl)
  simp -implicitDefEqProofs (disch := omega) only [List.any_cons, List.any_nil, Nat.reduceEqDiff, List.map_cons, List.map_nil, Option.map_some, Option.map_none, List.nil_append, ↓reduceIte, vcu, ↓vcd, l1, l2, l3, co24, co34]
  refine (collide_at τ s c d hE hc hd).mono ?_
  rintro r _ ⟨rfl, rfl⟩
  simp -implicitDefEqProofs (disch := omega) only [List.any_cons, List.any_nil, Nat.reduceEqDiff, List.map_cons, List.map_nil, Option.map_some, Option.map_none, List.nil_append, ↓reduceIte, vcu, ↓vcd, opK_some]
  refine fin_drop Try.results97 σ s1 ⟨?_, rfl⟩
  simp -implicitDefEqProofs (disch := omega) only [List.any_cons, List.any_nil, Nat.reduceEqDiff, List.map_cons, List.map_nil, Option.map_some, Option.map_none, List.nil_append, ↓reduceIte, vcu, ↓vcd]

/-- a further call fits to others -/
def FitsC (s : Sp) (cs : List Cl) (c : Cl) : Prop := Rg s c ∧ ∀ d ∈ cs, ¬ Hit s c d
instance (s : Sp) (cs : List Cl) (c : Cl) : Decidable (FitsC s cs c) := by unfold FitsC; infer_instance
theorem implFits_at (σ : AHeap) (s : Sp) (h o : Nat) (cs : List Cl) (c : Cl) (hv : TrisAt σ h o cs) (hl : cs.length ≤ 1048576) (hS : SV s) (hn : ∀ d ∈ cs, Nng d) :
    ACall Try.prog w0 74 [.agg #[.int .i64 s.O, .int .i64 s.E, .int .i64 s.M], .slice (some ⟨h, o, none⟩) cs.length 3, .agg #[.int .i64 c.i, .int .i64 c.o, .int .i64 c.v]] σ fun r σ' => r = .bool (decide (FitsC s cs c)) ∧ σ' = σ := by
  refine acall_go mixed Try.func74 rfl good74 fun pr => ?_
  simp -implicitDefEqProofs (disch := omega) only [List.any_cons, List.any_nil, Nat.reduceEqDiff, List.map_cons, List.map_nil, Option.map_some, Option.map_none, List.nil_append, ↓reduceIte, vcu, ↓vcd]
  refine r_boxed fun b τ1 n1 s1 e1 => ?_
  replace e1 : τ1 b = some ⟨[.int .i64 s.O, .int .i64 s.E, .int .i64 s.M], false⟩ := e1
  refine r_boxed fun g τ n2 s2 e2 => ?_
  replace e2 : τ g = some ⟨[.int .i64 c.i, .int .i64 c.o, .int .i64 c.v], false⟩ := e2
  have f1 := s2 _ _ e1
  have s12 := s1.trans s2
  have l1 : lds τ b 0 3 = some [.int .i64 s.O, .int .i64 s.E, .int .i64 s.M] := lds_three (ld_of f1 rfl) (ld_of f1 rfl) (ld_of f1 rfl)
  have lM : ld τ b (0 + 2) = some (.int .i64 s.M) := ld_of f1 rfl
  have li : ld τ g (0 + 0) = some (.int .i64 c.i) := ld_of e2 rfl
  have lo : ld τ g (0 + 1) = some (.int .i64 c.o) := ld_of e2 rfl
  have lv : ld τ g (0 + 2) = some (.int .i64 c.v) := ld_of e2 rfl
  simp -implicitDefEqProofs (disch := omega) only [List.any_cons, List.any_nil, Nat.reduceEqDiff, List.map_cons, List.map_nil, Option.map_some, Option.map_none, List.nil_append, ↓reduceIte, vcu, ↓vcd, l1, lM, li, lo, lv, co24]
  refine (hasLine_at τ s.O s.E s.M c.i hS).mono ?_
  rintro r _ ⟨rfl, rfl⟩
  rename_i τ
  by_cases hI : 0 ≤ c.i ∧ c.i ≤ s.O * s.E - 1
  case neg =>
    rw [decide_eq_false hI, decide_eq_false (fun hh : FitsC s cs c => hI hh.1.1)]
    simp -implicitDefEqProofs (disch := omega) only [List.any_cons, List.any_nil, Nat.reduceEqDiff, List.map_cons, List.map_nil, Option.map_some, Option.map_none, List.nil_append, ↓reduceIte, vcu, ↓vcd, opK_some, Bool.not_false]
    refine fin_drop Try.results74 σ s12 ⟨?_, rfl⟩
    simp -implicitDefEqProofs (disch := omega) only [List.any_cons, List.any_nil, Nat.reduceEqDiff, List.map_cons, List.map_nil, Option.map_some, Option.map_none, List.nil_append, ↓reduceIte, vcu, ↓vcd]
  rw [decide_eq_true hI]
  simp -implicitDefEqProofs (disch := omega) only [List.any_cons, List.any_nil, Nat.reduceEqDiff, List.map_cons, List.map_nil, Option.map_some, Option.map_none, List.nil_append, ↓reduceIte, vcu, ↓vcd, opK_some, Bool.not_true, l1, lM, li, lo, lv, co24]
  refine (hasLine_at τ s.O s.E s.M c.o hS).mono ?_
  rintro r _ ⟨rfl, rfl⟩
  rename_i τ
  by_cases hO : 0 ≤ c.o ∧ c.o ≤ s.O * s.E - 1
  case neg =>
    rw [decide_eq_false hO, decide_eq_false (fun hh : FitsC s cs c => hO hh.1.2.1)]
    simp -implicitDefEqProofs (disch := omega) only [List.any_cons, List.any_nil, Nat.reduceEqDiff, List.map_cons, List.map_nil, Option.map_some, Option.map_none, List.nil_append, ↓reduceIte, vcu, ↓vcd, opK_some, Bool.not_false]
    refine fin_drop Try.results74 σ s12 ⟨?_, rfl⟩
    simp -implicitDefEqProofs (disch := omega) only [List.any_cons, List.any_nil, Nat.reduceEqDiff, List.map_cons, List.map_nil, Option.map_some, Option.map_none, List.nil_append, ↓reduceIte, vcu, ↓vcd]
  rw [decide_eq_true hO]
  by_cases hV0 : c.v < 0
  · rw [decide_eq_false (fun hh : FitsC s cs c => by have := hh.1.2.2.1; omega)]
    simp -implicitDefEqProofs (disch := omega) only [List.any_cons, List.any_nil, Nat.reduceEqDiff, List.map_cons, List.map_nil, Option.map_some, Option.map_none, List.nil_append, ↓reduceIte, vcu, ↓vcd, opK_some, Bool.not_true, l1, lM, li, lo, lv, co24]
    refine fin_drop Try.results74 σ s12 ⟨?_, rfl⟩
    simp -implicitDefEqProofs (disch := omega) only [List.any_cons, List.any_nil, Nat.reduceEqDiff, List.map_cons, List.map_nil, Option.map_some, Option.map_none, List.nil_append, ↓reduceIte, vcu, ↓vcd]
  by_cases hV1 : s.M ≤ c.v
  · rw [decide_eq_false (fun hh : FitsC s cs c => by have := hh.1.2.2.2; omega)]
    simp -implicitDefEqProofs (disch := omega) only [List.any_cons, List.any_nil, Nat.reduceEqDiff, List.map_cons, List.map_nil, Option.map_some, Option.map_none, List.nil_append, ↓reduceIte, vcu, ↓vcd, opK_some, Bool.not_true, l1, lM, li, lo, lv, co24]
    refine fin_drop Try.results74 σ s12 ⟨?_, rfl⟩
    simp -implicitDefEqProofs (disch := omega) only [List.any_cons, List.any_nil, Nat.reduceEqDiff, List.map_cons, List.map_nil, Option.map_some, Option.map_none, List.nil_append, ↓reduceIte, vcu, ↓vcd]
  have hRg : Rg s c := ⟨hI, hO, by omega, by omega⟩
  have hnc := hRg.nng hS
  simp -implicitDefEqProofs (disch := omega) only [List.any_cons, List.any_nil, Nat.reduceEqDiff, List.map_cons, List.map_nil, Option.map_some, Option.map_none, List.nil_append, ↓reduceIte, vcu, ↓vcd, opK_some, Bool.not_true, l1, lM, li, lo, lv, co24]
  refine (hasFn_at τ h o cs _ _ (fun d => Hit s c d) (hv.sub s12) hl fun d hd pw => fitsC_at τ b g s c d f1 e2 hS.2.1.1 hnc (hn d hd)).mono ?_
  rintro r _ ⟨rfl, rfl⟩
  have hd : decide (FitsC s cs c) = !decide (∃ d ∈ cs, Hit s c d) := by
    by_cases hh : ∃ d ∈ cs, Hit s c d
    · rw [decide_eq_true hh, decide_eq_false (fun hf : FitsC s cs c => by obtain ⟨d, h1, h2⟩ := hh; exact hf.2 d h1 h2)]; rfl
    · rw [decide_eq_false hh, decide_eq_true (show FitsC s cs c from ⟨hRg, fun d h1 h2 => hh ⟨d, h1, h2⟩⟩)]; rfl
  rw [hd]
  simp -implicitDefEqProofs (disch := omega) only [List.any_cons, List.any_nil, Nat.reduceEqDiff, List.map_cons, List.map_nil, Option.map_some, Option.map_none, List.nil_append, ↓reduceIte, vcu, ↓vcd, opK_some]
  refine fin_drop Try.results74 σ s12 ⟨?_, rfl⟩
  simp -implicitDefEqProofs (disch := omega) only [List.any_cons, List.any_nil, Nat.reduceEqDiff, List.map_cons, List.map_nil, Option.map_some, Option.map_none, List.nil_append, ↓reduceIte, vcu, ↓vcd]

theorem implCV_at (σ : AHeap) (O E M : Int) (h o : Nat) (cs : List Cl) (hv : TrisAt σ h o cs) (hl : cs.length ≤ 1048576) :
    ACall Try.prog w0 28 [.agg #[.int .i64 O, .int .i64 E, .int .i64 M], .slice (some ⟨h, o, none⟩) cs.length 3] σ fun r σ' => r = .bool (decide (CV ⟨O, E, M⟩ cs)) ∧ σ' = σ := by
  refine acall_go mixed Try.func28 rfl good28 fun pr => ?_
  simp -implicitDefEqProofs (disch := omega) only [List.any_cons, List.any_nil, Nat.reduceEqDiff, List.map_cons, List.map_nil, Option.map_some, Option.map_none, List.nil_append, ↓reduceIte, vcu, ↓vcd]
  refine r_boxed fun b τ nb s1 e1 => ?_
  replace e1 : τ b = some ⟨[.int .i64 O, .int .i64 E, .int .i64 M], false⟩ := e1
  have l3 : ∀ τ', Sub τ τ' → lds τ' b 0 3 = some [.int .i64 O, .int .i64 E, .int .i64 M] := fun τ' hs => lds_three (ld_of (hs _ _ e1) rfl) (ld_of (hs _ _ e1) rfl) (ld_of (hs _ _ e1) rfl)
  have l0 := l3 τ (Sub.refl _)
  simp -implicitDefEqProofs (disch := omega) only [List.any_cons, List.any_nil, Nat.reduceEqDiff, List.map_cons, List.map_nil, Option.map_some, Option.map_none, List.nil_append, ↓reduceIte, vcu, ↓vcd, l0, co24]
  refine (implSV_at τ O E M).mono ?_
  rintro r _ ⟨rfl, rfl⟩
  rename_i τ
  by_cases hS : SV ⟨O, E, M⟩
  case neg =>
    rw [decide_eq_false hS, decide_eq_false (fun hC : CV ⟨O, E, M⟩ cs => hS hC.1)]
    simp -implicitDefEqProofs (disch := omega) only [List.any_cons, List.any_nil, Nat.reduceEqDiff, List.map_cons, List.map_nil, Option.map_some, Option.map_none, List.nil_append, ↓reduceIte, vcu, ↓vcd, opK_some, Bool.not_false]
    refine fin_drop Try.results28 σ s1 ⟨?_, rfl⟩
    simp -implicitDefEqProofs (disch := omega) only [List.any_cons, List.any_nil, Nat.reduceEqDiff, List.map_cons, List.map_nil, Option.map_some, Option.map_none, List.nil_append, ↓reduceIte, vcu, ↓vcd]
  rw [decide_eq_true hS]
  simp -implicitDefEqProofs (disch := omega) only [List.any_cons, List.any_nil, Nat.reduceEqDiff, List.map_cons, List.map_nil, Option.map_some, Option.map_none, List.nil_append, ↓reduceIte, vcu, ↓vcd, opK_some, Bool.not_true]
  refine vc_loop_c mixed (by kernel_rfl) [1, 2, 10, 11] (fun m a τ' => ∃ k : Nat, m + k = cs.length ∧ a 12 = .int .i64 k ∧ Sub τ τ' ∧ CV ⟨O, E, M⟩ (cs.take k)) cs.length ⟨0, by simp, rfl, Sub.refl _, by simpa using CV_nil.2 hS⟩ ?_
  rintro m a τ1 hc ⟨k, hk, h12, hs, hC⟩
  simp -implicitDefEqProofs (disch := omega) only [List.any_cons, List.any_nil, Nat.reduceEqDiff, List.map_cons, List.map_nil, Option.map_some, Option.map_none, List.nil_append, ↓reduceIte, vcu, ↓vcd] at hc
  obtain ⟨h1, h2, h10, h11, -⟩ := hc
  by_cases hlt : k < cs.length
  case neg =>
    obtain rfl : k = cs.length := by omega
    rw [List.take_length] at hC
    rw [decide_eq_true hC]
    simp -implicitDefEqProofs (disch := omega) only [List.any_cons, List.any_nil, Nat.reduceEqDiff, List.map_cons, List.map_nil, Option.map_some, Option.map_none, List.nil_append, ↓reduceIte, vcu, ↓vcd, h1, h2, h10, h11, h12]
    refine fin_drop Try.results28 σ (s1.trans hs) ⟨?_, rfl⟩
    simp -implicitDefEqProofs (disch := omega) only [List.any_cons, List.any_nil, Nat.reduceEqDiff, List.map_cons, List.map_nil, Option.map_some, Option.map_none, List.nil_append, ↓reduceIte, vcu, ↓vcd]
  have hx := ((hv.sub s1).sub hs).all hlt
  have hgk : cs.getD k cl0 = gc cs k := rfl
  have htk := CV_take (s := ⟨O, E, M⟩) hlt
  have htl : (cs.take k).length = k := by simp; omega
  have hft := fun (τ2 : AHeap) (hs2 : Sub τ τ2) (c : Cl) => implFits_at (w0 := w0) τ2 ⟨O, E, M⟩ h o (cs.take k) c (((hv.sub s1).sub hs2).take k) (by simp; omega) hS (fun d hd => (hC.2.1 d hd).nng hS)
  rw [htl] at hft
  have hiff : CV ⟨O, E, M⟩ (cs.take (k + 1)) ↔ FitsC ⟨O, E, M⟩ (cs.take k) (gc cs k) := htk.trans ⟨fun hh => hh.2, fun hh => ⟨hC, hh⟩⟩
  clear htk
  rw [hgk] at hx
  generalize gc cs k = c at hx hiff
  obtain ⟨ci, co, cv⟩ := c
  dsimp only at hx
  simp -implicitDefEqProofs (disch := omega) only [List.any_cons, List.any_nil, Nat.reduceEqDiff, List.map_cons, List.map_nil, Option.map_some, Option.map_none, List.nil_append, ↓reduceIte, vcu, ↓vcd, h1, h2, h10, h11, h12, hx, co34]
  refine r_new ze34 fun g τ2a ng sa ea => ?_
  replace ea : τ2a g = some ⟨[.int .i64 0, .int .i64 0, .int .i64 0], false⟩ := ea
  simp -implicitDefEqProofs (disch := omega) only [List.any_cons, List.any_nil, Nat.reduceEqDiff, List.map_cons, List.map_nil, Option.map_some, Option.map_none, List.nil_append, ↓reduceIte, vcu, ↓vcd, h1, h2, h10, h11, h12]
  refine r_sets (g := g) (i := 0) (C := [.int .i64 0, .int .i64 0, .int .i64 0]) (by simp -implicitDefEqProofs (disch := omega) only [List.any_cons, List.any_nil, Nat.reduceEqDiff, List.map_cons, List.map_nil, Option.map_some, Option.map_none, List.nil_append, ↓reduceIte, vcu, ↓vcd]) (by simp -implicitDefEqProofs (disch := omega) only [List.any_cons, List.any_nil, Nat.reduceEqDiff, List.map_cons, List.map_nil, Option.map_some, Option.map_none, List.nil_append, ↓reduceIte, vcu, ↓vcd, co34]; rfl) (by simp -implicitDefEqProofs (disch := omega) only [List.any_cons, List.any_nil, Nat.reduceEqDiff, List.map_cons, List.map_nil, Option.map_some, Option.map_none, List.nil_append, ↓reduceIte, vcu, ↓vcd]; rfl) (by simp -implicitDefEqProofs (disch := omega) only [List.any_cons, List.any_nil, Nat.reduceEqDiff, List.map_cons, List.map_nil, Option.map_some, Option.map_none, List.nil_append, ↓reduceIte, vcu, ↓vcd]; exact Nat.zero_lt_succ _) ea (by simp -implicitDefEqProofs (disch := omega) only [List.any_cons, List.any_nil, Nat.reduceEqDiff, List.map_cons, List.map_nil, Option.map_some, Option.map_none, List.nil_append, ↓reduceIte, vcu, ↓vcd]; exact Nat.le_refl _) fun τ2 k2 e2 => ?_
  replace e2 : τ2 g = some ⟨[.int .i64 ci, .int .i64 co, .int .i64 cv], false⟩ := e2
  have s2 := k2.sub sa ng
  have hs2 := hs.trans s2
  have l5 := l3 τ2 hs2
  have l6 : lds τ2 g 0 3 = some [.int .i64 ci, .int .i64 co, .int .i64 cv] := lds_three (ld_of e2 rfl) (ld_of e2 rfl) (ld_of e2 rfl)
  simp -implicitDefEqProofs (disch := omega) only [List.any_cons, List.any_nil, Nat.reduceEqDiff, List.map_cons, List.map_nil, Option.map_some, Option.map_none, List.nil_append, ↓reduceIte, vcu, ↓vcd, h1, h2, h10, h11, h12, l5, l6, co34, co24, Int.toNat_natCast]
  rw [r_callq]
  refine ⟨_, hft τ2 hs2 ⟨ci, co, cv⟩, ?_⟩
  by_cases hF : FitsC ⟨O, E, M⟩ (cs.take k) ⟨ci, co, cv⟩
  · rw [decide_eq_true hF]
    simp -implicitDefEqProofs (disch := omega) only [List.any_cons, List.any_nil, Nat.reduceEqDiff, List.map_cons, List.map_nil, Option.map_some, Option.map_none, List.nil_append, ↓reduceIte, vcu, ↓vcd, h1, h2, h10, h11, h12, Bool.not_true]
    exact ⟨⟨trivial, trivial, trivial, trivial, trivial⟩, m - 1, by omega, k + 1, by omega, by simp, hs2, hiff.2 hF⟩
  · rw [decide_eq_false hF, decide_eq_false (fun hC2 : CV ⟨O, E, M⟩ cs => hF (hiff.1 (hC2.take (k + 1))))]
    simp -implicitDefEqProofs (disch := omega) only [List.any_cons, List.any_nil, Nat.reduceEqDiff, List.map_cons, List.map_nil, Option.map_some, Option.map_none, List.nil_append, ↓reduceIte, vcu, ↓vcd, h1, h2, h10, h11, h12, Bool.not_false]
    refine fin_drop Try.results28 σ (s1.trans hs2) ⟨?_, rfl⟩
    simp -implicitDefEqProofs (disch := omega) only [List.any_cons, List.any_nil, Nat.reduceEqDiff, List.map_cons, List.map_nil, Option.map_some, Option.map_none, List.nil_append, ↓reduceIte, vcu, ↓vcd]
end Go.Proofs.Ytphacjkogompoaa

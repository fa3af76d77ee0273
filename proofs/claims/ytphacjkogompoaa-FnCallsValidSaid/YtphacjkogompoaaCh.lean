/- Lines that have calls, middle switches that are used or free: the reference. -/
import Derived.Test.YtphacjkogompoaaCg
set_option linter.unusedSimpArgs false
set_option linter.unusedVariables false
namespace Go.Proofs.Ytphacjkogompoaa
open Go Go.Abs Go.RowKit Go.Clos
variable {w0 : World}

theorem specBusy_at (σ : AHeap) (h o : Nat) (cs : List Cl) (I O : Int) (hv : TrisAt σ h o cs) (hl : cs.length ≤ 1048576) :
    ACall Try.prog w0 86 [.slice (some ⟨h, o, none⟩) cs.length 3, .int .i64 I, .int .i64 O] σ fun r σ' => r = .bool (decide (Busy cs I O)) ∧ σ' = σ := by
  refine acall_go mixed Try.func86 rfl good86 fun pr => ?_
  simp -implicitDefEqProofs (disch := omega) only [List.any_cons, List.any_nil, Nat.reduceEqDiff, List.map_cons, List.map_nil, Option.map_some, Option.map_none, List.nil_append, ↓reduceIte, vcu, ↓vcd]
  refine vc_loop_c mixed (by kernel_rfl) [0, 1, 2] (fun m a τ => ∃ k : Nat, m + k = cs.length ∧ a 7 = .int .i64 k ∧ τ = σ ∧ ∀ c ∈ cs.take k, c.i ≠ I ∧ c.o ≠ O) cs.length ⟨0, by simp, rfl, rfl, by simp⟩ ?_
  rintro m a τ hc ⟨k, hk, h7, rfl, hN⟩
  simp -implicitDefEqProofs (disch := omega) only [List.any_cons, List.any_nil, Nat.reduceEqDiff, List.map_cons, List.map_nil, Option.map_some, Option.map_none, List.nil_append, ↓reduceIte, vcu, ↓vcd] at hc
  obtain ⟨h0, h1, h2, -⟩ := hc
  by_cases hlt : k < cs.length
  case neg =>
    obtain rfl : k = cs.length := by omega
    rw [List.take_length] at hN
    rw [decide_eq_false (fun hB : Busy cs I O => by obtain ⟨c, hc, e⟩ := hB; exact e.elim (hN c hc).1 (hN c hc).2)]
    simp -implicitDefEqProofs (disch := omega) only [List.any_cons, List.any_nil, Nat.reduceEqDiff, List.map_cons, List.map_nil, Option.map_some, Option.map_none, List.nil_append, ↓reduceIte, vcu, ↓vcd, h0, h1, h2, h7]
    refine fin_one Try.results86 ⟨?_, rfl⟩
    simp -implicitDefEqProofs (disch := omega) only [List.any_cons, List.any_nil, Nat.reduceEqDiff, List.map_cons, List.map_nil, Option.map_some, Option.map_none, List.nil_append, ↓reduceIte, vcu, ↓vcd]
  obtain ⟨x1, x2, -⟩ := hv k hlt
  have hm := gc_mem hlt
  have ht := take_gc hlt
  have hgk : cs.getD k cl0 = gc cs k := rfl
  rw [hgk] at x1 x2
  generalize gc cs k = c at x1 x2 hm ht
  by_cases c1 : c.i = I
  · rw [decide_eq_true (show Busy cs I O from ⟨c, hm, .inl c1⟩)]
    simp -implicitDefEqProofs (disch := omega) only [List.any_cons, List.any_nil, Nat.reduceEqDiff, List.map_cons, List.map_nil, Option.map_some, Option.map_none, List.nil_append, ↓reduceIte, vcu, ↓vcd, h0, h1, h2, h7, x1, x2, Nat.add_zero]
    refine fin_one Try.results86 ⟨?_, rfl⟩
    simp -implicitDefEqProofs (disch := omega) only [List.any_cons, List.any_nil, Nat.reduceEqDiff, List.map_cons, List.map_nil, Option.map_some, Option.map_none, List.nil_append, ↓reduceIte, vcu, ↓vcd]
  by_cases c2 : c.o = O
  · rw [decide_eq_true (show Busy cs I O from ⟨c, hm, .inr c2⟩)]
    simp -implicitDefEqProofs (disch := omega) only [List.any_cons, List.any_nil, Nat.reduceEqDiff, List.map_cons, List.map_nil, Option.map_some, Option.map_none, List.nil_append, ↓reduceIte, vcu, ↓vcd, h0, h1, h2, h7, x1, x2, Nat.add_zero]
    refine fin_one Try.results86 ⟨?_, rfl⟩
    simp -implicitDefEqProofs (disch := omega) only [List.any_cons, List.any_nil, Nat.reduceEqDiff, List.map_cons, List.map_nil, Option.map_some, Option.map_none, List.nil_append, ↓reduceIte, vcu, ↓vcd]
  simp -implicitDefEqProofs (disch := omega) only [List.any_cons, List.any_nil, Nat.reduceEqDiff, List.map_cons, List.map_nil, Option.map_some, Option.map_none, List.nil_append, ↓reduceIte, vcu, ↓vcd, h0, h1, h2, h7, x1, x2, Nat.add_zero]
  refine ⟨⟨trivial, trivial, trivial, trivial⟩, m - 1, by omega, k + 1, by omega, by simp, trivial, fun d hd => ?_⟩
  rw [ht] at hd
  rcases List.mem_append.1 hd with hd | hd
  · exact hN d hd
  · rw [List.mem_singleton] at hd; subst hd; exact ⟨c1, c2⟩

theorem specFirst_at (σ : AHeap) (O E M : Int) (g p : Nat) (used : List Int) (hv : IntsAt .i64 σ g p used) (hl : used.length ≤ 1048576) (hM : 0 ≤ M ∧ M ≤ 5) :
    ACall Try.prog w0 87 [.agg #[.int .i64 O, .int .i64 E, .int .i64 M], .slice (some ⟨g, p, none⟩) used.length 1] σ fun r σ' => r = .int .i64 (firstN used M.toNat 0) ∧ σ' = σ := by
  refine acall_go mixed Try.func87 rfl good87 fun pr => ?_
  simp -implicitDefEqProofs (disch := omega) only [List.any_cons, List.any_nil, Nat.reduceEqDiff, List.map_cons, List.map_nil, Option.map_some, Option.map_none, List.nil_append, ↓reduceIte, vcu, ↓vcd]
  refine r_boxed fun b τ nb s1 e1 => ?_
  replace e1 : τ b = some ⟨[.int .i64 O, .int .i64 E, .int .i64 M], false⟩ := e1
  have lM : ld τ b (0 + 2) = some (.int .i64 M) := ld_of e1 rfl
  simp -implicitDefEqProofs (disch := omega) only [List.any_cons, List.any_nil, Nat.reduceEqDiff, List.map_cons, List.map_nil, Option.map_some, Option.map_none, List.nil_append, ↓reduceIte, vcu, ↓vcd]
  refine vc_loop_c mixed (by kernel_rfl) [1, 2] (fun m a τ' => ∃ k : Nat, m + k = M.toNat ∧ a 5 = .int .i64 k ∧ τ' = τ ∧ firstN used M.toNat 0 = firstN used m k) M.toNat ⟨0, by simp, rfl, rfl, rfl⟩ ?_
  rintro m a τ2 hc ⟨k, hk, h5, rfl, hf⟩
  simp -implicitDefEqProofs (disch := omega) only [List.any_cons, List.any_nil, Nat.reduceEqDiff, List.map_cons, List.map_nil, Option.map_some, Option.map_none, List.nil_append, ↓reduceIte, vcu, ↓vcd] at hc
  obtain ⟨h1, h2, -⟩ := hc
  by_cases hlt : k < M.toNat
  case neg =>
    obtain rfl : m = 0 := by omega
    simp -implicitDefEqProofs (disch := omega) only [List.any_cons, List.any_nil, Nat.reduceEqDiff, List.map_cons, List.map_nil, Option.map_some, Option.map_none, List.nil_append, ↓reduceIte, vcu, ↓vcd, h1, h2, h5, lM]
    refine fin_drop Try.results87 σ s1 ⟨?_, rfl⟩
    simp -implicitDefEqProofs (disch := omega) only [List.any_cons, List.any_nil, Nat.reduceEqDiff, List.map_cons, List.map_nil, Option.map_some, Option.map_none, List.nil_append, ↓reduceIte, vcu, ↓vcd]
    rw [hf]; rfl
  obtain ⟨m2, rfl⟩ : ∃ m2, m = m2 + 1 := ⟨m - 1, by omega⟩
  rw [firstN_step] at hf
  simp -implicitDefEqProofs (disch := omega) only [List.any_cons, List.any_nil, Nat.reduceEqDiff, List.map_cons, List.map_nil, Option.map_some, Option.map_none, List.nil_append, ↓reduceIte, vcu, ↓vcd, h1, h2, h5, lM]
  refine (has_at τ2 g p used k (hv.sub s1) hl).mono ?_
  rintro r _ ⟨rfl, rfl⟩
  rename_i τ
  by_cases hu : (k : Int) ∈ used
  · rw [if_pos hu] at hf
    rw [decide_eq_true hu]
    simp -implicitDefEqProofs (disch := omega) only [List.any_cons, List.any_nil, Nat.reduceEqDiff, List.map_cons, List.map_nil, Option.map_some, Option.map_none, List.nil_append, ↓reduceIte, vcu, ↓vcd, opK_some, Bool.not_true, h1, h2, h5]
    exact ⟨⟨trivial, trivial, trivial⟩, m2, by omega, k + 1, by omega, by simp, trivial, hf⟩
  · rw [if_neg hu] at hf
    rw [decide_eq_false hu]
    simp -implicitDefEqProofs (disch := omega) only [List.any_cons, List.any_nil, Nat.reduceEqDiff, List.map_cons, List.map_nil, Option.map_some, Option.map_none, List.nil_append, ↓reduceIte, vcu, ↓vcd, opK_some, Bool.not_false, h1, h2, h5]
    refine fin_drop Try.results87 σ s1 ⟨?_, rfl⟩
    simp -implicitDefEqProofs (disch := omega) only [List.any_cons, List.any_nil, Nat.reduceEqDiff, List.map_cons, List.map_nil, Option.map_some, Option.map_none, List.nil_append, ↓reduceIte, vcu, ↓vcd]
    rw [hf]
theorem specUsedI_at (σ : AHeap) (s : Sp) (h o : Nat) (cs : List Cl) (x : Int) (hv : TrisAt σ h o cs) (hl : cs.length ≤ 1048576) (hR : ∀ c ∈ cs, Rg s c) (hS : SV s) :
    ACall Try.prog w0 88 [.agg #[.int .i64 s.O, .int .i64 s.E, .int .i64 s.M], .slice (some ⟨h, o, none⟩) cs.length 3, .int .i64 x, .int .i64 0] σ fun r σ' => Sub σ σ' ∧ OwnI σ σ' r (usedI s cs x) := by
  have hL := hS.lines
  have hE := hS.2.1
  have hlen := fun k => (used_length s (cs.take k) x).1
  have hlk : ∀ k, (cs.take k).length ≤ cs.length := fun k => by simp; omega
  refine acall_go mixed Try.func88 rfl good88 fun pr => ?_
  simp -implicitDefEqProofs (disch := omega) only [List.any_cons, List.any_nil, Nat.reduceEqDiff, List.map_cons, List.map_nil, Option.map_some, Option.map_none, List.nil_append, ↓reduceIte, vcu, ↓vcd]
  refine r_boxed fun b τ nb s1 e1 => ?_
  replace e1 : τ b = some ⟨[.int .i64 s.O, .int .i64 s.E, .int .i64 s.M], false⟩ := e1
  simp -implicitDefEqProofs (disch := omega) only [List.any_cons, List.any_nil, Nat.reduceEqDiff, List.map_cons, List.map_nil, Option.map_some, Option.map_none, List.nil_append, ↓reduceIte, vcu, ↓vcd]
  refine r_lit el37 (out := #[]) (by kernel_rfl) (by kernel_rfl) fun e0 τ1 n1 s2 e2 => ?_
  simp -implicitDefEqProofs (disch := omega) only [List.any_cons, List.any_nil, Nat.reduceEqDiff, List.map_cons, List.map_nil, Option.map_some, Option.map_none, List.nil_append, ↓reduceIte, vcu, ↓vcd]
  refine vc_loop_c mixed (by kernel_rfl) [1, 2, 3, 4] (fun m a τ' => ∃ (k g : Nat), m + k = cs.length ∧ a 10 = .int .i64 k ∧ a 9 = .slice (some ⟨g, 0, none⟩) (usedI s (cs.take k) x).length 1 ∧ Sub τ τ' ∧ τ' g = some ⟨ints .i64 (usedI s (cs.take k) x), false⟩ ∧ τ g = none) cs.length ⟨0, e0, by simp, rfl, rfl, s2, e2, n1⟩ ?_
  rintro m a τ2 hc ⟨k, g, hk, h10, h9, hs, hg, hn⟩
  simp -implicitDefEqProofs (disch := omega) only [List.any_cons, List.any_nil, Nat.reduceEqDiff, List.map_cons, List.map_nil, Option.map_some, Option.map_none, List.nil_append, ↓reduceIte, vcu, ↓vcd] at hc
  obtain ⟨h1, h2, h3, h4, -⟩ := hc
  by_cases hlt : k < cs.length
  case neg =>
    obtain rfl : k = cs.length := by omega
    rw [List.take_length] at h9 hg
    simp -implicitDefEqProofs (disch := omega) only [List.any_cons, List.any_nil, Nat.reduceEqDiff, List.map_cons, List.map_nil, Option.map_some, Option.map_none, List.nil_append, ↓reduceIte, vcu, ↓vcd, h1, h2, h3, h4, h9, h10]
    refine fin_one Try.results88 ⟨s1.trans hs, .inr ⟨g, ?_, hg, free_sub s1 hn⟩⟩
    simp -implicitDefEqProofs (disch := omega) only [List.any_cons, List.any_nil, Nat.reduceEqDiff, List.map_cons, List.map_nil, Option.map_some, Option.map_none, List.nil_append, ↓reduceIte, vcu, ↓vcd, h9]
  obtain ⟨x1, x2, x3⟩ := ((hv.sub s1).sub hs) k hlt
  have hm := hR _ (gc_mem hlt)
  have ht := usedI_take (s := s) (x := x) hlt
  have hl1 := hlen (k + 1)
  have hl0 := hlen k
  have hk1 := hlk k
  have hgk : cs.getD k cl0 = gc cs k := rfl
  rw [hgk] at x1 x2 x3
  generalize gc cs k = c at x1 x2 x3 hm ht
  obtain ⟨⟨a1, a2⟩, ⟨a3, a4⟩, -⟩ := hm
  have lE : ld τ2 b (0 + 1) = some (.int .i64 s.E) := ld_of (hs _ _ e1) rfl
  by_cases ci : c.i / s.E = x
  · rw [if_pos ci] at ht
    simp -implicitDefEqProofs (disch := omega) only [List.any_cons, List.any_nil, Nat.reduceEqDiff, List.map_cons, List.map_nil, Option.map_some, Option.map_none, List.nil_append, ↓reduceIte, vcu, ↓vcd, h1, h2, h3, h4, h10, x1, x2, x3, lE, Nat.add_zero]
    refine r_lit el37 (out := #[.int .i64 c.v]) (by first | kernel_rfl | (simp -implicitDefEqProofs (disch := omega) only [List.any_cons, List.any_nil, Nat.reduceEqDiff, List.map_cons, List.map_nil, Option.map_some, Option.map_none, List.nil_append, ↓reduceIte, vcu, ↓vcd]; kernel_rfl)) (by rfl) fun e3 τ3 n3 s3 v3 => ?_
    simp -implicitDefEqProofs (disch := omega) only [List.any_cons, List.any_nil, Nat.reduceEqDiff, List.map_cons, List.map_nil, Option.map_some, Option.map_none, List.nil_append, ↓reduceIte, vcu, ↓vcd, h9]
    refine r_pushI (g := g) (e := e3) (o := 0) (k := .i64) (xs := usedI s (cs.take k) x) (ys := [c.v]) (m := 1) (len := (usedI s (cs.take k) x).length) el37 (by omega) sl37 (by simp -implicitDefEqProofs (disch := omega) only [List.any_cons, List.any_nil, Nat.reduceEqDiff, List.map_cons, List.map_nil, Option.map_some, Option.map_none, List.nil_append, ↓reduceIte, vcu, ↓vcd, h9]) (s3 _ _ hg) rfl (by simp -implicitDefEqProofs (disch := omega) only [List.any_cons, List.any_nil, Nat.reduceEqDiff, List.map_cons, List.map_nil, Option.map_some, Option.map_none, List.nil_append, ↓reduceIte, vcu, ↓vcd]) (intsAt_own v3) rfl (by omega) fun g6 τ6 n6 k6 v6 => ?_
    rw [← ht] at v6
    have hle : (usedI s (cs.take k) x).length + 1 = (usedI s (cs.take (k + 1)) x).length := by rw [ht]; simp
    simp -implicitDefEqProofs (disch := omega) only [List.any_cons, List.any_nil, Nat.reduceEqDiff, List.map_cons, List.map_nil, Option.map_some, Option.map_none, List.nil_append, ↓reduceIte, vcu, ↓vcd, h1, h2, h3, h4, h10, hle]
    exact ⟨⟨trivial, trivial, trivial, trivial, trivial⟩, m - 1, by omega, k + 1, g6, by omega, by simp, rfl, k6.sub (hs.trans s3) hn, v6, free_sub (hs.trans s3) n6⟩
  · rw [if_neg ci, List.append_nil] at ht
    simp -implicitDefEqProofs (disch := omega) only [List.any_cons, List.any_nil, Nat.reduceEqDiff, List.map_cons, List.map_nil, Option.map_some, Option.map_none, List.nil_append, ↓reduceIte, vcu, ↓vcd, h1, h2, h3, h4, h10, x1, x2, x3, lE, Nat.add_zero]
    exact ⟨⟨trivial, trivial, trivial, trivial, trivial⟩, m - 1, by omega, k + 1, g, by omega, by simp, by rw [ht]; exact h9, hs, by rw [ht]; exact hg, hn⟩
theorem specUsedO_at (σ : AHeap) (s : Sp) (h o : Nat) (cs : List Cl) (x : Int) (hv : TrisAt σ h o cs) (hl : cs.length ≤ 1048576) (hR : ∀ c ∈ cs, Rg s c) (hS : SV s) :
    ACall Try.prog w0 88 [.agg #[.int .i64 s.O, .int .i64 s.E, .int .i64 s.M], .slice (some ⟨h, o, none⟩) cs.length 3, .int .i64 x, .int .i64 1] σ fun r σ' => Sub σ σ' ∧ OwnI σ σ' r (usedO s cs x) := by
  have hL := hS.lines
  have hE := hS.2.1
  have hlen := fun k => (used_length s (cs.take k) x).2
  have hlk : ∀ k, (cs.take k).length ≤ cs.length := fun k => by simp; omega
  refine acall_go mixed Try.func88 rfl good88 fun pr => ?_
  simp -implicitDefEqProofs (disch := omega) only [List.any_cons, List.any_nil, Nat.reduceEqDiff, List.map_cons, List.map_nil, Option.map_some, Option.map_none, List.nil_append, ↓reduceIte, vcu, ↓vcd]
  refine r_boxed fun b τ nb s1 e1 => ?_
  replace e1 : τ b = some ⟨[.int .i64 s.O, .int .i64 s.E, .int .i64 s.M], false⟩ := e1
  simp -implicitDefEqProofs (disch := omega) only [List.any_cons, List.any_nil, Nat.reduceEqDiff, List.map_cons, List.map_nil, Option.map_some, Option.map_none, List.nil_append, ↓reduceIte, vcu, ↓vcd]
  refine r_lit el37 (out := #[]) (by kernel_rfl) (by kernel_rfl) fun e0 τ1 n1 s2 e2 => ?_
  simp -implicitDefEqProofs (disch := omega) only [List.any_cons, List.any_nil, Nat.reduceEqDiff, List.map_cons, List.map_nil, Option.map_some, Option.map_none, List.nil_append, ↓reduceIte, vcu, ↓vcd]
  refine vc_loop_c mixed (by kernel_rfl) [1, 2, 3, 4] (fun m a τ' => ∃ (k g : Nat), m + k = cs.length ∧ a 10 = .int .i64 k ∧ a 9 = .slice (some ⟨g, 0, none⟩) (usedO s (cs.take k) x).length 1 ∧ Sub τ τ' ∧ τ' g = some ⟨ints .i64 (usedO s (cs.take k) x), false⟩ ∧ τ g = none) cs.length ⟨0, e0, by simp, rfl, rfl, s2, e2, n1⟩ ?_
  rintro m a τ2 hc ⟨k, g, hk, h10, h9, hs, hg, hn⟩
  simp -implicitDefEqProofs (disch := omega) only [List.any_cons, List.any_nil, Nat.reduceEqDiff, List.map_cons, List.map_nil, Option.map_some, Option.map_none, List.nil_append, ↓reduceIte, vcu, ↓vcd] at hc
  obtain ⟨h1, h2, h3, h4, -⟩ := hc
  by_cases hlt : k < cs.length
  case neg =>
    obtain rfl : k = cs.length := by omega
    rw [List.take_length] at h9 hg
    simp -implicitDefEqProofs (disch := omega) only [List.any_cons, List.any_nil, Nat.reduceEqDiff, List.map_cons, List.map_nil, Option.map_some, Option.map_none, List.nil_append, ↓reduceIte, vcu, ↓vcd, h1, h2, h3, h4, h9, h10]
    refine fin_one Try.results88 ⟨s1.trans hs, .inr ⟨g, ?_, hg, free_sub s1 hn⟩⟩
    simp -implicitDefEqProofs (disch := omega) only [List.any_cons, List.any_nil, Nat.reduceEqDiff, List.map_cons, List.map_nil, Option.map_some, Option.map_none, List.nil_append, ↓reduceIte, vcu, ↓vcd, h9]
  obtain ⟨x1, x2, x3⟩ := ((hv.sub s1).sub hs) k hlt
  have hm := hR _ (gc_mem hlt)
  have ht := usedO_take (s := s) (x := x) hlt
  have hl1 := hlen (k + 1)
  have hl0 := hlen k
  have hk1 := hlk k
  have hgk : cs.getD k cl0 = gc cs k := rfl
  rw [hgk] at x1 x2 x3
  generalize gc cs k = c at x1 x2 x3 hm ht
  obtain ⟨⟨a1, a2⟩, ⟨a3, a4⟩, -⟩ := hm
  have lE : ld τ2 b (0 + 1) = some (.int .i64 s.E) := ld_of (hs _ _ e1) rfl
  by_cases ci : c.o / s.E = x
  · rw [if_pos ci] at ht
    simp -implicitDefEqProofs (disch := omega) only [List.any_cons, List.any_nil, Nat.reduceEqDiff, List.map_cons, List.map_nil, Option.map_some, Option.map_none, List.nil_append, ↓reduceIte, vcu, ↓vcd, h1, h2, h3, h4, h10, x1, x2, x3, lE, Nat.add_zero]
    refine r_lit el37 (out := #[.int .i64 c.v]) (by first | kernel_rfl | (simp -implicitDefEqProofs (disch := omega) only [List.any_cons, List.any_nil, Nat.reduceEqDiff, List.map_cons, List.map_nil, Option.map_some, Option.map_none, List.nil_append, ↓reduceIte, vcu, ↓vcd]; kernel_rfl)) (by rfl) fun e3 τ3 n3 s3 v3 => ?_
    simp -implicitDefEqProofs (disch := omega) only [List.any_cons, List.any_nil, Nat.reduceEqDiff, List.map_cons, List.map_nil, Option.map_some, Option.map_none, List.nil_append, ↓reduceIte, vcu, ↓vcd, h9]
    refine r_pushI (g := g) (e := e3) (o := 0) (k := .i64) (xs := usedO s (cs.take k) x) (ys := [c.v]) (m := 1) (len := (usedO s (cs.take k) x).length) el37 (by omega) sl37 (by simp -implicitDefEqProofs (disch := omega) only [List.any_cons, List.any_nil, Nat.reduceEqDiff, List.map_cons, List.map_nil, Option.map_some, Option.map_none, List.nil_append, ↓reduceIte, vcu, ↓vcd, h9]) (s3 _ _ hg) rfl (by simp -implicitDefEqProofs (disch := omega) only [List.any_cons, List.any_nil, Nat.reduceEqDiff, List.map_cons, List.map_nil, Option.map_some, Option.map_none, List.nil_append, ↓reduceIte, vcu, ↓vcd]) (intsAt_own v3) rfl (by omega) fun g6 τ6 n6 k6 v6 => ?_
    rw [← ht] at v6
    have hle : (usedO s (cs.take k) x).length + 1 = (usedO s (cs.take (k + 1)) x).length := by rw [ht]; simp
    simp -implicitDefEqProofs (disch := omega) only [List.any_cons, List.any_nil, Nat.reduceEqDiff, List.map_cons, List.map_nil, Option.map_some, Option.map_none, List.nil_append, ↓reduceIte, vcu, ↓vcd, h1, h2, h3, h4, h10, hle]
    exact ⟨⟨trivial, trivial, trivial, trivial, trivial⟩, m - 1, by omega, k + 1, g6, by omega, by simp, rfl, k6.sub (hs.trans s3) hn, v6, free_sub (hs.trans s3) n6⟩
  · rw [if_neg ci, List.append_nil] at ht
    simp -implicitDefEqProofs (disch := omega) only [List.any_cons, List.any_nil, Nat.reduceEqDiff, List.map_cons, List.map_nil, Option.map_some, Option.map_none, List.nil_append, ↓reduceIte, vcu, ↓vcd, h1, h2, h3, h4, h10, x1, x2, x3, lE, Nat.add_zero]
    exact ⟨⟨trivial, trivial, trivial, trivial, trivial⟩, m - 1, by omega, k + 1, g, by omega, by simp, by rw [ht]; exact h9, hs, by rw [ht]; exact hg, hn⟩
end Go.Proofs.Ytphacjkogompoaa

/- MiddleFree, CallPut and CallDrop of the program. -/
import Derived.Test.YtphacjkogompoaaDc
import Derived.Test.YtphacjkogompoaaDd
set_option linter.unusedSimpArgs false
set_option linter.unusedVariables false
namespace Go.Proofs.Ytphacjkogompoaa
open Go Go.Abs Go.RowKit Go.Clos
variable {w0 : World}

theorem fits_free {s : Sp} {cs : List Cl} {i o v : Int} (h : CV s cs) : FitsC s cs ⟨i, o, v⟩ ↔ Free s cs i o v := by
  unfold Free FitsC
  rw [CV_snoc]
  exact ⟨fun hh => ⟨h, hh⟩, fun hh => hh.2⟩
theorem freeV_len5 (s : Sp) (cs : List Cl) (i o : Int) : (freeV s cs i o).length ≤ 5 := by
  by_cases h : SV s
  · exact freeV_length s cs i o h
  · rw [freeV_no fun hh => h hh.1.1]; simp
theorem implFree_at (σ : AHeap) (s : Sp) (h o : Nat) (cs : List Cl) (I O : Int) (hv : TrisAt σ h o cs) (hl : cs.length ≤ 1048576) :
    ACall Try.prog w0 31 [.agg #[.int .i64 s.O, .int .i64 s.E, .int .i64 s.M], .slice (some ⟨h, o, none⟩) cs.length 3, .int .i64 I, .int .i64 O] σ fun r σ' => Sub σ σ' ∧ OwnI σ σ' r (freeV s cs I O) := by
  refine acall_go mixed Try.func31 rfl good31 fun pr => ?_
  simp -implicitDefEqProofs (disch := omega) only [List.any_cons, List.any_nil, Nat.reduceEqDiff, List.map_cons, List.map_nil, Option.map_some, Option.map_none, List.nil_append, ↓reduceIte, vcu, ↓vcd]
  refine r_boxed fun b τ nb s1 e1 => ?_
  replace e1 : τ b = some ⟨[.int .i64 s.O, .int .i64 s.E, .int .i64 s.M], false⟩ := e1
  have m3 : ∀ τ', Sub τ τ' → lds τ' b 0 3 = some [.int .i64 s.O, .int .i64 s.E, .int .i64 s.M] := fun τ' hs => lds_three (ld_of (hs _ _ e1) rfl) (ld_of (hs _ _ e1) rfl) (ld_of (hs _ _ e1) rfl)
  have mM : ∀ τ', Sub τ τ' → ld τ' b (0 + 2) = some (.int .i64 s.M) := fun τ' hs => ld_of (hs _ _ e1) rfl
  have l3 := m3 τ (Sub.refl _)
  simp -implicitDefEqProofs (disch := omega) only [List.any_cons, List.any_nil, Nat.reduceEqDiff, List.map_cons, List.map_nil, Option.map_some, Option.map_none, List.nil_append, ↓reduceIte, vcu, ↓vcd, l3, co24]
  refine (implCV_at τ s.O s.E s.M h o cs (hv.sub s1) hl).mono ?_
  rintro r _ ⟨rfl, rfl⟩
  rename_i τ
  by_cases hC : CV s cs
  case neg =>
    rw [decide_eq_false hC, freeV_no fun hh => hC hh.1]
    simp -implicitDefEqProofs (disch := omega) only [List.any_cons, List.any_nil, Nat.reduceEqDiff, List.map_cons, List.map_nil, Option.map_some, Option.map_none, List.nil_append, ↓reduceIte, vcu, ↓vcd, opK_some, Bool.not_false]
    refine fin_one Try.results31 ⟨s1, .inl ⟨?_, rfl⟩⟩
    simp -implicitDefEqProofs (disch := omega) only [List.any_cons, List.any_nil, Nat.reduceEqDiff, List.map_cons, List.map_nil, Option.map_some, Option.map_none, List.nil_append, ↓reduceIte, vcu, ↓vcd]
  rw [decide_eq_true hC]
  have hS := hC.1
  obtain ⟨-, -, hM1, hM2⟩ := hS
  have hle : ∀ k, (freeL s cs I O k).length ≤ k := fun k => by
    have := List.length_filter_le (fun v => decide (Free s cs I O v)) (rng k)
    rw [rng_length] at this; exact this
  have lM := mM τ (Sub.refl _)
  simp -implicitDefEqProofs (disch := omega) only [List.any_cons, List.any_nil, Nat.reduceEqDiff, List.map_cons, List.map_nil, Option.map_some, Option.map_none, List.nil_append, ↓reduceIte, vcu, ↓vcd, opK_some, Bool.not_true, lM]
  refine vc_loop_c mixed (by kernel_rfl) [1, 2, 3, 4, 16] (fun m a τ' => ∃ k : Nat, m + k = s.M.toNat ∧ a 17 = .int .i64 k ∧ Sub τ τ' ∧ OwnI τ τ' (a 9) (freeL s cs I O k)) s.M.toNat ⟨0, by simp, rfl, Sub.refl _, .inl ⟨rfl, rfl⟩⟩ ?_
  rintro m a τ2 hc ⟨k, hk, h17, hs, hO⟩
  simp -implicitDefEqProofs (disch := omega) only [List.any_cons, List.any_nil, Nat.reduceEqDiff, List.map_cons, List.map_nil, Option.map_some, Option.map_none, List.nil_append, ↓reduceIte, vcu, ↓vcd] at hc
  obtain ⟨h1, h2, h3, h4, h16, -⟩ := hc
  by_cases hlt : k < s.M.toNat
  case neg =>
    obtain rfl : k = s.M.toNat := by omega
    simp -implicitDefEqProofs (disch := omega) only [List.any_cons, List.any_nil, Nat.reduceEqDiff, List.map_cons, List.map_nil, Option.map_some, Option.map_none, List.nil_append, ↓reduceIte, vcu, ↓vcd, h1, h2, h3, h4, h16, h17]
    refine fin_one Try.results31 ⟨s1.trans hs, ?_⟩
    have := hO.older s1
    simp -implicitDefEqProofs (disch := omega) only [List.any_cons, List.any_nil, Nat.reduceEqDiff, List.map_cons, List.map_nil, Option.map_some, Option.map_none, List.nil_append, ↓reduceIte, vcu, ↓vcd]
    exact this
  have l2 := m3 τ2 hs
  have hlk := hle k
  have hsucc := freeL_succ s cs I O k
  have hft := implFits_at (w0 := w0) τ2 s h o cs ⟨I, O, (k : Int)⟩ (hv.sub (s1.trans hs)) hl hC.1 (fun d hd => (hC.2.1 d hd).nng hC.1)
  have hiff := fits_free (i := I) (o := O) (v := (k : Int)) hC
  simp -implicitDefEqProofs (disch := omega) only [List.any_cons, List.any_nil, Nat.reduceEqDiff, List.map_cons, List.map_nil, Option.map_some, Option.map_none, List.nil_append, ↓reduceIte, vcu, ↓vcd, h1, h2, h3, h4, h16, h17, l2, co24]
  rw [r_build]
  refine ⟨(_, #[.int .i64 I, .int .i64 O, .int .i64 (k : Int)]), ⟨ze34, by simp -implicitDefEqProofs (disch := omega) only [List.any_cons, List.any_nil, Nat.reduceEqDiff, List.map_cons, List.map_nil, Option.map_some, Option.map_none, List.nil_append, ↓reduceIte, vcu, ↓vcd, h2, h3, h17]; kernel_rfl⟩, ?_⟩
  simp -implicitDefEqProofs (disch := omega) only [List.any_cons, List.any_nil, Nat.reduceEqDiff, List.map_cons, List.map_nil, Option.map_some, Option.map_none, List.nil_append, ↓reduceIte, vcu, ↓vcd]
  refine hft.mono ?_
  rintro r _ ⟨rfl, rfl⟩
  rename_i τ2
  by_cases hF : Free s cs I O k
  · rw [decide_eq_true (hiff.2 hF)]
    rw [if_pos hF] at hsucc
    simp -implicitDefEqProofs (disch := omega) only [List.any_cons, List.any_nil, Nat.reduceEqDiff, List.map_cons, List.map_nil, Option.map_some, Option.map_none, List.nil_append, ↓reduceIte, vcu, ↓vcd, opK_some, h1, h2, h3, h4, h16, h17]
    refine r_lit el37 (out := #[.int .i64 (k : Int)]) (by first | kernel_rfl | (simp -implicitDefEqProofs (disch := omega) only [List.any_cons, List.any_nil, Nat.reduceEqDiff, List.map_cons, List.map_nil, Option.map_some, Option.map_none, List.nil_append, ↓reduceIte, vcu, ↓vcd, h17]; kernel_rfl)) (by rfl) fun e3 τ9 n9 s9 v9 => ?_
    rcases hO with ⟨h9, hnil⟩ | ⟨g, h9, hg, hn⟩
    · simp -implicitDefEqProofs (disch := omega) only [List.any_cons, List.any_nil, Nat.reduceEqDiff, List.map_cons, List.map_nil, Option.map_some, Option.map_none, List.nil_append, ↓reduceIte, vcu, ↓vcd, h9]
      refine r_pushI_nil (e := e3) (o := 0) (k := .i64) (ys := [(k : Int)]) (m := 1) el37 (by omega) sl37 (by simp -implicitDefEqProofs (disch := omega) only [List.any_cons, List.any_nil, Nat.reduceEqDiff, List.map_cons, List.map_nil, Option.map_some, Option.map_none, List.nil_append, ↓reduceIte, vcu, ↓vcd, h9]) (by simp -implicitDefEqProofs (disch := omega) only [List.any_cons, List.any_nil, Nat.reduceEqDiff, List.map_cons, List.map_nil, Option.map_some, Option.map_none, List.nil_append, ↓reduceIte, vcu, ↓vcd]) (intsAt_own v9) rfl (by omega) fun g6 τ6 n6 k6 v6 => ?_
      rw [hnil, List.nil_append] at hsucc
      simp -implicitDefEqProofs (disch := omega) only [List.any_cons, List.any_nil, Nat.reduceEqDiff, List.map_cons, List.map_nil, Option.map_some, Option.map_none, List.nil_append, ↓reduceIte, vcu, ↓vcd, h1, h2, h3, h4, h16, h17]
      have hs9 := hs.trans s9
      exact ⟨⟨trivial, trivial, trivial, trivial, trivial, trivial⟩, m - 1, by omega, k + 1, by omega, by simp, hs9.trans k6, .inr ⟨g6, by rw [hsucc]; rfl, by rw [hsucc]; exact v6, free_sub hs9 n6⟩⟩
    · simp -implicitDefEqProofs (disch := omega) only [List.any_cons, List.any_nil, Nat.reduceEqDiff, List.map_cons, List.map_nil, Option.map_some, Option.map_none, List.nil_append, ↓reduceIte, vcu, ↓vcd, h9]
      refine r_pushI (g := g) (e := e3) (o := 0) (k := .i64) (xs := freeL s cs I O k) (ys := [(k : Int)]) (m := 1) (len := (freeL s cs I O k).length) el37 (by omega) sl37 (by simp -implicitDefEqProofs (disch := omega) only [List.any_cons, List.any_nil, Nat.reduceEqDiff, List.map_cons, List.map_nil, Option.map_some, Option.map_none, List.nil_append, ↓reduceIte, vcu, ↓vcd, h9]) (s9 _ _ hg) rfl (by simp -implicitDefEqProofs (disch := omega) only [List.any_cons, List.any_nil, Nat.reduceEqDiff, List.map_cons, List.map_nil, Option.map_some, Option.map_none, List.nil_append, ↓reduceIte, vcu, ↓vcd]) (intsAt_own v9) rfl (by omega) fun g6 τ6 n6 k6 v6 => ?_
      rw [← hsucc] at v6
      have hle2 : (freeL s cs I O k).length + 1 = (freeL s cs I O (k + 1)).length := by rw [hsucc]; simp
      have hs9 := hs.trans s9
      simp -implicitDefEqProofs (disch := omega) only [List.any_cons, List.any_nil, Nat.reduceEqDiff, List.map_cons, List.map_nil, Option.map_some, Option.map_none, List.nil_append, ↓reduceIte, vcu, ↓vcd, h1, h2, h3, h4, h16, h17, hle2]
      exact ⟨⟨trivial, trivial, trivial, trivial, trivial, trivial⟩, m - 1, by omega, k + 1, by omega, by simp, k6.sub hs9 hn, .inr ⟨g6, rfl, v6, free_sub hs9 n6⟩⟩
  · rw [decide_eq_false fun hh => hF (hiff.1 hh)]
    rw [if_neg hF, List.append_nil] at hsucc
    simp -implicitDefEqProofs (disch := omega) only [List.any_cons, List.any_nil, Nat.reduceEqDiff, List.map_cons, List.map_nil, Option.map_some, Option.map_none, List.nil_append, ↓reduceIte, vcu, ↓vcd, opK_some, h1, h2, h3, h4, h16, h17]
    exact ⟨⟨trivial, trivial, trivial, trivial, trivial, trivial⟩, m - 1, by omega, k + 1, by omega, by simp, hs, by rw [hsucc]; exact hO⟩

theorem cloneC_at (σ : AHeap) (h o : Nat) (xs : List Cl) (hv : TrisAt σ h o xs) (hl : xs.length ≤ 1048576) :
    ACall Try.prog w0 77 [.slice (some ⟨h, o, none⟩) xs.length 3] σ fun r σ' => Sub σ σ' ∧ OwnC σ σ' r xs := by
  refine acall_go mixed Try.func77 rfl good77 fun pr => ?_
  simp -implicitDefEqProofs (disch := omega) only [List.any_cons, List.any_nil, Nat.reduceEqDiff, List.map_cons, List.map_nil, Option.map_some, Option.map_none, List.nil_append, ↓reduceIte, vcu, ↓vcd]
  refine r_nilEq (b := some ⟨h, o, none⟩) (l := xs.length) (z := 3) Try.underlying29 (by simp -implicitDefEqProofs (disch := omega) only [List.any_cons, List.any_nil, Nat.reduceEqDiff, List.map_cons, List.map_nil, Option.map_some, Option.map_none, List.nil_append, ↓reduceIte, vcu, ↓vcd]) fun c _ h2 => ?_
  cases c with
  | true =>
    simp -implicitDefEqProofs (disch := omega) only [List.any_cons, List.any_nil, Nat.reduceEqDiff, List.map_cons, List.map_nil, Option.map_some, Option.map_none, List.nil_append, ↓reduceIte, vcu, ↓vcd]
    have : xs = [] := by
      cases xs with
      | nil => rfl
      | cons x xs => have := h2 (by simp); cases this
    subst this
    refine fin_one Try.results77 ⟨Sub.refl _, .inl ⟨?_, rfl⟩⟩
    simp -implicitDefEqProofs (disch := omega) only [List.any_cons, List.any_nil, Nat.reduceEqDiff, List.map_cons, List.map_nil, Option.map_some, Option.map_none, List.nil_append, ↓reduceIte, vcu, ↓vcd]
  | false =>
    simp -implicitDefEqProofs (disch := omega) only [List.any_cons, List.any_nil, Nat.reduceEqDiff, List.map_cons, List.map_nil, Option.map_some, Option.map_none, List.nil_append, ↓reduceIte, vcu, ↓vcd]
    refine r_lit el29 (out := #[]) (by kernel_rfl) (by kernel_rfl) fun e1 τ1 n1 s1 v1 => ?_
    simp -implicitDefEqProofs (disch := omega) only [List.any_cons, List.any_nil, Nat.reduceEqDiff, List.map_cons, List.map_nil, Option.map_some, Option.map_none, List.nil_append, ↓reduceIte, vcu, ↓vcd]
    refine r_pushC (g := e1) (e := h) (o := o) (cs := []) (ds := xs) (m := xs.length) (len := 0) el29 (by omega) sl29 (by simp -implicitDefEqProofs (disch := omega) only [List.any_cons, List.any_nil, Nat.reduceEqDiff, List.map_cons, List.map_nil, Option.map_some, Option.map_none, List.nil_append, ↓reduceIte, vcu, ↓vcd]) v1 rfl (by simp -implicitDefEqProofs (disch := omega) only [List.any_cons, List.any_nil, Nat.reduceEqDiff, List.map_cons, List.map_nil, Option.map_some, Option.map_none, List.nil_append, ↓reduceIte, vcu, ↓vcd]) (hv.sub s1) rfl (by omega) fun g τ2 n2 k2 v2 => ?_
    rw [List.nil_append] at v2
    simp -implicitDefEqProofs (disch := omega) only [List.any_cons, List.any_nil, Nat.reduceEqDiff, List.map_cons, List.map_nil, Option.map_some, Option.map_none, List.nil_append, ↓reduceIte, vcu, ↓vcd, Nat.zero_add]
    refine fin_one Try.results77 ⟨k2.sub s1 n1, .inr ⟨g, ?_, v2, free_sub s1 n2⟩⟩
    simp -implicitDefEqProofs (disch := omega) only [List.any_cons, List.any_nil, Nat.reduceEqDiff, List.map_cons, List.map_nil, Option.map_some, Option.map_none, List.nil_append, ↓reduceIte, vcu, ↓vcd]

theorem implPut_at (σ : AHeap) (s : Sp) (h o : Nat) (cs : List Cl) (I O : Int) (hv : TrisAt σ h o cs) (hl : cs.length ≤ 1048576) :
    ACall Try.prog w0 38 [.agg #[.int .i64 s.O, .int .i64 s.E, .int .i64 s.M], .slice (some ⟨h, o, none⟩) cs.length 3, .int .i64 I, .int .i64 O] σ fun r σ' => ∃ v, r = .tuple #[v, .bool (putOk s cs I O)] ∧ Sub σ σ' ∧ OwnC σ σ' v (putL s cs I O) := by
  refine acall_go mixed Try.func38 rfl good38 fun pr => ?_
  simp -implicitDefEqProofs (disch := omega) only [List.any_cons, List.any_nil, Nat.reduceEqDiff, List.map_cons, List.map_nil, Option.map_some, Option.map_none, List.nil_append, ↓reduceIte, vcu, ↓vcd]
  refine r_boxed fun b τ nb s1 e1 => ?_
  replace e1 : τ b = some ⟨[.int .i64 s.O, .int .i64 s.E, .int .i64 s.M], false⟩ := e1
  have m3 : ∀ τ', Sub τ τ' → lds τ' b 0 3 = some [.int .i64 s.O, .int .i64 s.E, .int .i64 s.M] := fun τ' hs => lds_three (ld_of (hs _ _ e1) rfl) (ld_of (hs _ _ e1) rfl) (ld_of (hs _ _ e1) rfl)
  have l3 := m3 τ (Sub.refl _)
  simp -implicitDefEqProofs (disch := omega) only [List.any_cons, List.any_nil, Nat.reduceEqDiff, List.map_cons, List.map_nil, Option.map_some, Option.map_none, List.nil_append, ↓reduceIte, vcu, ↓vcd, l3, co24]
  refine (implCV_at τ s.O s.E s.M h o cs (hv.sub s1) hl).mono ?_
  rintro r _ ⟨rfl, rfl⟩
  rename_i τ
  by_cases hC : CV s cs
  case neg =>
    obtain ⟨q1, q2⟩ := putL_no (i := I) (o := O) hC
    rw [decide_eq_false hC, q1, q2]
    simp -implicitDefEqProofs (disch := omega) only [List.any_cons, List.any_nil, Nat.reduceEqDiff, List.map_cons, List.map_nil, Option.map_some, Option.map_none, List.nil_append, ↓reduceIte, vcu, ↓vcd, opK_some, Bool.not_false]
    refine fin_two Try.results38 ⟨.slice none 0 0, ?_, s1, .inl ⟨rfl, rfl⟩⟩
    simp -implicitDefEqProofs (disch := omega) only [List.any_cons, List.any_nil, Nat.reduceEqDiff, List.map_cons, List.map_nil, Option.map_some, Option.map_none, List.nil_append, ↓reduceIte, vcu, ↓vcd]
  rw [decide_eq_true hC]
  have hl12 := hC.len
  simp -implicitDefEqProofs (disch := omega) only [List.any_cons, List.any_nil, Nat.reduceEqDiff, List.map_cons, List.map_nil, Option.map_some, Option.map_none, List.nil_append, ↓reduceIte, vcu, ↓vcd, opK_some, Bool.not_true]
  refine (cloneC_at τ h o cs (hv.sub s1) hl).mono ?_
  rintro va τ4 ⟨hs4, wa⟩
  have l4 := m3 τ4 hs4
  simp -implicitDefEqProofs (disch := omega) only [List.any_cons, List.any_nil, Nat.reduceEqDiff, List.map_cons, List.map_nil, Option.map_some, Option.map_none, List.nil_append, ↓reduceIte, vcu, ↓vcd, opK_some, l4, co24]
  refine (implFree_at τ4 s h o cs I O (hv.sub (s1.trans hs4)) hl).mono ?_
  rintro vf τ5 ⟨s5, wf⟩
  have hs5 := hs4.trans s5
  have hlf := ownI_lenD wf
  have wa5 := wa.sub s5
  cases hf : freeV s cs I O with
  | cons v0 vs =>
    obtain ⟨q1, q2⟩ := putL_cons hC hf
    rw [hf] at wf hlf
    obtain ⟨gf, rfl, wf1, -⟩ := rowI_D wf (by simp)
    have lx := intsAt_own wf1 0 (by simp)
    have hg0 : (v0 :: vs).getD 0 0 = v0 := rfl
    rw [hg0] at lx
    have hpos : (0 : Int) < ((v0 :: vs).length : Int) := by simp
    have hpos' : 0 < (v0 :: vs).length := by simp
    rw [q1, q2]
    generalize (v0 :: vs).length = lf at hlf hpos hpos'
    have hd : decide ((lf : Int) = 0) = false := decide_eq_false (by omega)
    simp -implicitDefEqProofs (disch := omega) only [List.any_cons, List.any_nil, Nat.reduceEqDiff, List.map_cons, List.map_nil, Option.map_some, Option.map_none, List.nil_append, ↓reduceIte, vcu, ↓vcd, opK_some, hlf, hd, lx, Int.toNat_zero, Nat.mul_one]
    rw [r_build]
    refine ⟨(_, #[.int .i64 I, .int .i64 O, .int .i64 v0]), ⟨ze34, by simp -implicitDefEqProofs (disch := omega) only [List.any_cons, List.any_nil, Nat.reduceEqDiff, List.map_cons, List.map_nil, Option.map_some, Option.map_none, List.nil_append, ↓reduceIte, vcu, ↓vcd]; kernel_rfl⟩, ?_⟩
    simp -implicitDefEqProofs (disch := omega) only [List.any_cons, List.any_nil, Nat.reduceEqDiff, List.map_cons, List.map_nil, Option.map_some, Option.map_none, List.nil_append, ↓reduceIte, vcu, ↓vcd]
    refine r_lit el29 (out := #[.int .i64 I, .int .i64 O, .int .i64 v0]) (by first | kernel_rfl | (simp -implicitDefEqProofs (disch := omega) only [List.any_cons, List.any_nil, Nat.reduceEqDiff, List.map_cons, List.map_nil, Option.map_some, Option.map_none, List.nil_append, ↓reduceIte, vcu, ↓vcd]; kernel_rfl)) (by rfl) fun eb τ6 n6 s6 v6 => ?_
    replace v6 : τ6 eb = some ⟨tris [⟨I, O, v0⟩], false⟩ := v6
    rcases wa5 with ⟨rfl, rfl⟩ | ⟨gb, rfl, v5, nτb⟩
    · refine r_pushC_nil (e := eb) (o := 0) (ds := [⟨I, O, v0⟩]) (m := 1) el29 (by omega) sl29 (by simp -implicitDefEqProofs (disch := omega) only [List.any_cons, List.any_nil, Nat.reduceEqDiff, List.map_cons, List.map_nil, Option.map_some, Option.map_none, List.nil_append, ↓reduceIte, vcu, ↓vcd]) (by simp -implicitDefEqProofs (disch := omega) only [List.any_cons, List.any_nil, Nat.reduceEqDiff, List.map_cons, List.map_nil, Option.map_some, Option.map_none, List.nil_append, ↓reduceIte, vcu, ↓vcd]) (trisAt_own v6) rfl (by omega) fun gc9 τ9 n9 k9 v9 => ?_
      have s9 := (hs5.trans s6).trans k9
      simp -implicitDefEqProofs (disch := omega) only [List.any_cons, List.any_nil, Nat.reduceEqDiff, List.map_cons, List.map_nil, Option.map_some, Option.map_none, List.nil_append, ↓reduceIte, vcu, ↓vcd]
      refine fin_two Try.results38 ⟨.slice (some ⟨gc9, 0, none⟩) 1 3, ?_, s1.trans s9, .inr ⟨gc9, by simp, v9, free_sub (s1.trans (hs5.trans s6)) n9⟩⟩
      simp -implicitDefEqProofs (disch := omega) only [List.any_cons, List.any_nil, Nat.reduceEqDiff, List.map_cons, List.map_nil, Option.map_some, Option.map_none, List.nil_append, ↓reduceIte, vcu, ↓vcd]
    · refine r_pushC (g := gb) (e := eb) (o := 0) (cs := cs) (ds := [⟨I, O, v0⟩]) (m := 1) (len := cs.length) el29 (by omega) sl29 (by simp -implicitDefEqProofs (disch := omega) only [List.any_cons, List.any_nil, Nat.reduceEqDiff, List.map_cons, List.map_nil, Option.map_some, Option.map_none, List.nil_append, ↓reduceIte, vcu, ↓vcd]) (s6 _ _ v5) rfl (by simp -implicitDefEqProofs (disch := omega) only [List.any_cons, List.any_nil, Nat.reduceEqDiff, List.map_cons, List.map_nil, Option.map_some, Option.map_none, List.nil_append, ↓reduceIte, vcu, ↓vcd]) (trisAt_own v6) rfl (by omega) fun gc9 τ9 n9 k9 v9 => ?_
      have s9 : Sub τ τ9 := k9.sub (hs5.trans s6) nτb
      simp -implicitDefEqProofs (disch := omega) only [List.any_cons, List.any_nil, Nat.reduceEqDiff, List.map_cons, List.map_nil, Option.map_some, Option.map_none, List.nil_append, ↓reduceIte, vcu, ↓vcd]
      refine fin_two Try.results38 ⟨.slice (some ⟨gc9, 0, none⟩) (cs.length + 1) 3, ?_, s1.trans s9, .inr ⟨gc9, by simp, v9, free_sub (s1.trans (hs5.trans s6)) n9⟩⟩
      simp -implicitDefEqProofs (disch := omega) only [List.any_cons, List.any_nil, Nat.reduceEqDiff, List.map_cons, List.map_nil, Option.map_some, Option.map_none, List.nil_append, ↓reduceIte, vcu, ↓vcd]
  | nil =>
    obtain ⟨q1, q2⟩ := putL_nil hC hf
    rw [hf] at hlf
    rw [q1, q2]
    simp -implicitDefEqProofs (disch := omega) only [List.any_cons, List.any_nil, Nat.reduceEqDiff, List.map_cons, List.map_nil, Option.map_some, Option.map_none, List.nil_append, ↓reduceIte, vcu, ↓vcd, opK_some, hlf, List.length_nil, Int.natCast_zero]
    refine fin_two Try.results38 ⟨va, ?_, s1.trans hs5, wa5.older s1⟩
    simp -implicitDefEqProofs (disch := omega) only [List.any_cons, List.any_nil, Nat.reduceEqDiff, List.map_cons, List.map_nil, Option.map_some, Option.map_none, List.nil_append, ↓reduceIte, vcu, ↓vcd]

theorem dropC_at (σ : AHeap) (b : Nat) (I : Int) (c : Cl) (hb : σ b = some ⟨[.int .i64 I], false⟩) :
    ACall Try.prog w0 79 [.agg #[.int .i64 c.i, .int .i64 c.o, .int .i64 c.v], .pointer (some ⟨b, 0, none⟩)] σ fun r σ' => r = .bool (decide (c.i = I)) ∧ σ' = σ := by
  refine acall_go mixed Try.func79 rfl good79 fun pr => ?_
  simp -implicitDefEqProofs (disch := omega) only [List.any_cons, List.any_nil, Nat.reduceEqDiff, List.map_cons, List.map_nil, Option.map_some, Option.map_none, List.nil_append, ↓reduceIte, vcu, ↓vcd]
  refine r_boxed fun h1 τ1 n1 s1 e1 => ?_
  replace e1 : τ1 h1 = some ⟨[.int .i64 c.i, .int .i64 c.o, .int .i64 c.v], false⟩ := e1
  have l1 : ld τ1 h1 (0 + 0) = some (.int .i64 c.i) := ld_of e1 rfl
  have l2 : ld τ1 b 0 = some (.int .i64 I) := ld_of (s1 _ _ hb) rfl
  simp -implicitDefEqProofs (disch := omega) only [List.any_cons, List.any_nil, Nat.reduceEqDiff, List.map_cons, List.map_nil, Option.map_some, Option.map_none, List.nil_append, ↓reduceIte, vcu, ↓vcd, l1, l2]
  refine fin_drop Try.results79 σ s1 ⟨?_, rfl⟩
  simp -implicitDefEqProofs (disch := omega) only [List.any_cons, List.any_nil, Nat.reduceEqDiff, List.map_cons, List.map_nil, Option.map_some, Option.map_none, List.nil_append, ↓reduceIte, vcu, ↓vcd]
end Go.Proofs.Ytphacjkogompoaa

/- LoopSet of the reference. -/
import Derived.Test.YtgieeafdgdkkcaaXf
import Derived.Test.YtgieeafdgdkkcaaBc
set_option linter.unusedSimpArgs false
set_option linter.unusedVariables false
namespace Go.Proofs.Ytgieeafdgdkkcaa
open Go Go.Abs Go.RowKit Go.Ban
variable {w0 : World}

/-- rows of any numbers by what lies at each place -/
def tabZ (n : Nat) (f : Nat → Int) : List Int := (List.range n).map f
theorem tabZ_length (n : Nat) (f : Nat → Int) : (tabZ n f).length = n := by simp [tabZ]
theorem tabZ_getD {n i : Nat} {f : Nat → Int} (h : i < n) : (tabZ n f).getD i 0 = f i := by simp [tabZ, List.getD, h]
theorem tabZ_congr {n : Nat} {f f' : Nat → Int} (h : ∀ i, i < n → f i = f' i) : tabZ n f = tabZ n f' := List.map_congr_left fun i hi => h i (List.mem_range.1 hi)
theorem tabZ_set (n : Nat) (f : Nat → Int) (i : Nat) (v : Int) : (tabZ n f).set i v = tabZ n fun j => if j = i then v else f j := by
  apply List.ext_getElem?
  intro j
  rw [List.getElem?_set]
  by_cases hj : j < n
  · by_cases e : i = j
    · subst e; simp [tabZ, hj]
    · have e2 : ¬ j = i := fun h => e h.symm
      simp only [tabZ, List.getElem?_map, List.getElem?_range hj, Option.map_some, if_neg e, if_neg e2]
  · have h1 : (List.range n)[j]? = none := List.getElem?_eq_none (by simp; omega)
    by_cases e : i = j
    · subst e; simp [tabZ, hj]
    · simp only [tabZ, List.getElem?_map, h1, Option.map_none, if_neg e]
theorem tabZ_succ (n : Nat) (f : Nat → Int) : tabZ (n + 1) f = tabZ n f ++ [f n] := by simp [tabZ, List.range_succ]
theorem tabB_add (a b : Nat) (f : Nat → Bool) : tabB (a + b) f = tabB a f ++ tabB b fun i => f (a + i) := by
  simp [tabB, List.range_add, List.map_append, List.map_map]
/-- a mark as the reference writes it -/
def encS : Option Bool → Int
  | none => -1
  | some false => 0
  | some true => 1
theorem encS_upd (s : Marks) (i : Nat) (v : Option Bool) : (fun j => if j = i then encS v else encS (s j)) = fun j => encS (upd s i v j) := by
  funext j; unfold upd; split <;> rfl
def lsN (l : Nat) (q : Nat → Nat) : List Bool := tabB (many (l + 1)) (lsC (l + 1) q)
theorem lsN_length (l : Nat) (q : Nat → Nat) : (lsN l q).length = many (l + 1) := tabB_length _ _
/-- the parts of the settings, one behind the other -/
theorem lsN_parts (l : Nat) (q : Nat → Nat) : tabB (2 ^ (l + 1)) (bgn (2 ^ (l + 1)) q) ++ lsN l (cutN (2 ^ (l + 1)) (upQ (2 ^ (l + 1)) q)) ++ lsN l (cutN (2 ^ (l + 1)) (lowN (2 ^ (l + 1)) q)) ++ tabB (2 ^ (l + 1)) (end' (2 ^ (l + 1)) q) = lsN (l + 1) q := by
  have hm : many (l + 1 + 1) = 2 ^ (l + 1) + many (l + 1) + many (l + 1) + 2 ^ (l + 1) := by
    have h1 : many (l + 1 + 1) = 2 ^ (l + 2) + 2 * many (l + 1) := rfl
    have := pow_two' l
    omega
  unfold lsN
  rw [hm, tabB_add, tabB_add, tabB_add]
  congr 1
  · congr 1
    · congr 1
      · refine tabB_congr fun i hi => ?_
        show _ = lsC (l + 2) q _
        rw [lsC, if_pos hi]
      · refine tabB_congr fun i hi => ?_
        show _ = lsC (l + 2) q _
        rw [lsC, if_neg (by omega), if_pos (by omega)]; congr 1; omega
    · refine tabB_congr fun i hi => ?_
      show _ = lsC (l + 2) q _
      rw [lsC, if_neg (by omega), if_neg (by omega), if_pos (by omega)]; congr 1; omega
  · refine tabB_congr fun i hi => ?_
    show _ = lsC (l + 2) q _
    rw [lsC, if_neg (by omega), if_neg (by omega), if_neg (by omega)]; congr 1; omega
theorem qOf_tab (H : Nat) (f : Nat → Nat) : qOf (tabI H f) = cutN H f := by
  funext k
  unfold qOf cutN
  by_cases h : k < H
  · rw [tabI_getD h, if_pos h]; simp
  · rw [if_neg h, List.getD, List.getElem?_eq_none (by rw [tabI_length]; omega)]; rfl
theorem lvlS {l : Nat} (h : l ≤ 2) : Ls (2 ^ (l + 1)) (l + 1) := by
  have : l = 0 ∨ l = 1 ∨ l = 2 := by omega
  rcases this with rfl | rfl | rfl
  · exact .inl ⟨rfl, rfl⟩
  · exact .inr (.inl ⟨rfl, rfl⟩)
  · exact .inr (.inr ⟨rfl, rfl⟩)

/-- append a slice of truths, nil or not -/
theorem r_pushBV {P : Program} {b0 : Base} {a : AFrame} {σ : AHeap} {K : AK} {all os : List Oper} {d : Nat} {ty : TypeId} {pos : String} {af : Array Edge} {t u : TypeId} {zv : Value} {b : Nat} {x y : Operand} {v : Value} {g len : Nat} {xs ys : List Bool} (hE : Elems P t 1 zv b) (hb : b ≤ 64) (hu : ∃ e2, P.underlying u = some (.slice e2))
    (hx : ev a x = .slice (some ⟨g, 0, none⟩) len 1) (hg : σ g = some ⟨bools xs, false⟩) (hn : xs.length = len) (hy : ev a y = v) (he : Bools σ v ys) (hl : len + ys.length ≤ 4294967296)
    (hk : ∀ g' τ, σ g' = none → Kept g σ τ → τ g' = some ⟨bools (xs ++ ys), false⟩ → vcR P b0 false all os (fset a d (.slice (some ⟨g', 0, none⟩) (len + ys.length) 1)) τ K) :
    vcR P b0 false all (⟨some d, .call ⟨.builtin .append, #[x, y], #[t, u]⟩, ty, pos, af, none⟩ :: os) a σ K := by
  rcases he with ⟨rfl, rfl⟩ | ⟨e, o, rfl, he⟩
  · refine r_push hE hu hx hg (by rw [bools_length]; omega) (D := []) (by rw [hy]; rfl) rfl ?_ fun g' τ h1 h2 h3 => ?_
    · have : (len * 1 + 0) * b ≤ 4294967296 * 64 := Nat.mul_le_mul (by simp at hl; omega) hb
      simp at this ⊢; simp at hl; omega
    · have := hk g' τ h1 h2 (by rw [h3]; simp)
      simpa using this
  · exact r_pushB hE hb hu hx hg hn hy he rfl hl hk

theorem specLs_at : ∀ (l : Nat), l ≤ 2 → ∀ (σ : AHeap) (h o : Nat) (p : List Int), IntsAt .i64 σ h o p → EO p → p.length = 2 ^ (l + 1) →
    ACall Try.prog w0 70 [.slice (some ⟨h, o, none⟩) p.length 1] σ fun r σ' => Sub σ σ' ∧ OwnB σ σ' r (lsN l (qOf p)) := by
  intro l
  induction l with
  | zero =>
    intro _ σ h o p hv hE hl
    obtain ⟨lg, e', hL, hq, -, hgd⟩ := hE.fn
    have h2 : p.length = 2 := hl
    have lx := hv 0 (by omega)
    rw [hgd 0 (by omega)] at lx
    have hb : decide ((qOf p 0 : Int) = 1) = (qOf p 0 == 1) := by
      rw [Bool.eq_iff_iff, decide_eq_true_eq, beq_iff_eq]; omega
    refine acall_go mixed Try.func70 rfl good70 fun pr => ?_
    simp -implicitDefEqProofs (disch := omega) only [List.any_cons, List.any_nil, Nat.reduceEqDiff, List.map_cons, List.map_nil, Option.map_some, Option.map_none, List.nil_append, ↓reduceIte, vcu0, vcu1, vcu2, vcu3, vcu4, vcu5, vcu6, vcu7, vcu8, vcu9, vcu10, vcu11, vcu12, vcu13, vcu14, vcu15, vcu16, vcu17, vcu18, vcu19, vcu20, vcu21, vcu22, ↓vcd0, ↓vcd1, ↓vcd2, ↓vcd3, h2, lx, Int.toNat_zero, Int.cast_ofNat_Int]
    refine r_lit el27 (out := #[.bool (qOf p 0 == 1)]) (by simp -implicitDefEqProofs (disch := omega) only [List.any_cons, List.any_nil, Nat.reduceEqDiff, List.map_cons, List.map_nil, Option.map_some, Option.map_none, List.nil_append, ↓reduceIte, vcu0, vcu1, vcu2, vcu3, vcu4, vcu5, vcu6, vcu7, vcu8, vcu9, vcu10, vcu11, vcu12, vcu13, vcu14, vcu15, vcu16, vcu17, vcu18, vcu19, vcu20, vcu21, vcu22, ↓vcd0, ↓vcd1, ↓vcd2, ↓vcd3, hb]; kernel_rfl) (by rfl) fun e τ2 n2 s2 v2 => ?_
    simp -implicitDefEqProofs (disch := omega) only [List.any_cons, List.any_nil, Nat.reduceEqDiff, List.map_cons, List.map_nil, Option.map_some, Option.map_none, List.nil_append, ↓reduceIte, vcu0, vcu1, vcu2, vcu3, vcu4, vcu5, vcu6, vcu7, vcu8, vcu9, vcu10, vcu11, vcu12, vcu13, vcu14, vcu15, vcu16, vcu17, vcu18, vcu19, vcu20, vcu21, vcu22, ↓vcd0, ↓vcd1, ↓vcd2, ↓vcd3]
    refine fin_one Try.results70 ⟨s2, .inr ⟨e, ?_, v2, n2⟩⟩
    simp -implicitDefEqProofs (disch := omega) only [List.any_cons, List.any_nil, Nat.reduceEqDiff, List.map_cons, List.map_nil, Option.map_some, Option.map_none, List.nil_append, ↓reduceIte, vcu0, vcu1, vcu2, vcu3, vcu4, vcu5, vcu6, vcu7, vcu8, vcu9, vcu10, vcu11, vcu12, vcu13, vcu14, vcu15, vcu16, vcu17, vcu18, vcu19, vcu20, vcu21, vcu22, ↓vcd0, ↓vcd1, ↓vcd2, ↓vcd3]
    rfl
  | succ l ih =>
    intro hl2 σ h o p hv hE hl
    obtain ⟨lg, e', hL, hq, -, hgd⟩ := hE.fn
    have hH0 : 2 ≤ 2 ^ (l + 1) ∧ 2 ^ (l + 1) ≤ 4 ∧ many (l + 1) ≤ 6 := by
      have : l = 0 ∨ l = 1 := by omega
      rcases this with rfl | rfl <;> decide
    have hN : 2 ^ (l + 1 + 1) = 2 * 2 ^ (l + 1) := pow_two' l
    have ihh := ih (by omega)
    have hparts := lsN_parts l (qOf p)
    have hlA := lsN_length l (cutN (2 ^ (l + 1)) (upQ (2 ^ (l + 1)) (qOf p)))
    have hlB := lsN_length l (cutN (2 ^ (l + 1)) (lowN (2 ^ (l + 1)) (qOf p)))
    have hLh := lvlS (show l ≤ 2 by omega)
    have hx : ∀ τ, Sub σ τ → ∀ k, k < p.length → ld τ h (o + k) = some (.int .i64 (qOf p k : Nat)) := fun τ hs k hk => by
      have := hv.sub hs k hk
      rwa [hgd k hk] at this
    rw [← hparts]
    rw [hl, hN] at hq hx
    have hEu := eo_of hLh (upQ_perm hq)
    have hEl := eo_of hLh (lowN_perm hq)
    have hcu := qOf_tab (2 ^ (l + 1)) (upQ (2 ^ (l + 1)) (qOf p))
    have hcl := qOf_tab (2 ^ (l + 1)) (lowN (2 ^ (l + 1)) (qOf p))
    rw [← hcu, ← hcl] at hparts ⊢
    rw [← hcu] at hlA
    rw [← hcl] at hlB
    have U := ihh
    have hpl : p.length = 2 * 2 ^ (l + 1) := by rw [hl, hN]
    rw [hpl]
    have ihu : ∀ τ g, τ g = some ⟨ints .i64 (tabI (2 ^ (l + 1)) (upQ (2 ^ (l + 1)) (qOf p))), false⟩ → ACall Try.prog w0 70 [.slice (some ⟨g, 0, none⟩) (2 ^ (l + 1)) 1] τ fun r σ' => Sub τ σ' ∧ OwnB τ σ' r (lsN l (qOf (tabI (2 ^ (l + 1)) (upQ (2 ^ (l + 1)) (qOf p))))) := fun τ g hg => by
      have := ihh τ g 0 _ (intsAt_own hg) hEu.1 (tabI_length _ _)
      rwa [tabI_length] at this
    have ihl : ∀ τ g, τ g = some ⟨ints .i64 (tabI (2 ^ (l + 1)) (lowN (2 ^ (l + 1)) (qOf p))), false⟩ → ACall Try.prog w0 70 [.slice (some ⟨g, 0, none⟩) (2 ^ (l + 1)) 1] τ fun r σ' => Sub τ σ' ∧ OwnB τ σ' r (lsN l (qOf (tabI (2 ^ (l + 1)) (lowN (2 ^ (l + 1)) (qOf p))))) := fun τ g hg => by
      have := ihh τ g 0 _ (intsAt_own hg) hEl.1 (tabI_length _ _)
      rwa [tabI_length] at this
    clear ih ihh U hEu hEl hcu hcl hparts hN hl hpl hgd hv hL hE hLh
    generalize lsN l (qOf (tabI (2 ^ (l + 1)) (upQ (2 ^ (l + 1)) (qOf p)))) = A at *
    generalize lsN l (qOf (tabI (2 ^ (l + 1)) (lowN (2 ^ (l + 1)) (qOf p)))) = B at *
    generalize qOf p = q at *
    generalize many (l + 1) = P at *
    generalize 2 ^ (l + 1) = H at *
    clear hl2 e' p lg l
    obtain ⟨hH2, hH4, hP6⟩ := hH0
    have F := fl_Inv H
    have G := gq_Inv hq
    refine acall_go mixed Try.func70 rfl good70 fun pr => ?_
    simp -implicitDefEqProofs (disch := omega) only [List.any_cons, List.any_nil, Nat.reduceEqDiff, List.map_cons, List.map_nil, Option.map_some, Option.map_none, List.nil_append, ↓reduceIte, vcu0, vcu1, vcu2, vcu3, vcu4, vcu5, vcu6, vcu7, vcu8, vcu9, vcu10, vcu11, vcu12, vcu13, vcu14, vcu15, vcu16, vcu17, vcu18, vcu19, vcu20, vcu21, vcu22, ↓vcd0, ↓vcd1, ↓vcd2, ↓vcd3]
    refine r_makeI (kx := .i64) (ky := .i64) (l := 2 * H) (c := 2 * H) el30 (by omega) (by simp -implicitDefEqProofs (disch := omega) only [List.any_cons, List.any_nil, Nat.reduceEqDiff, List.map_cons, List.map_nil, Option.map_some, Option.map_none, List.nil_append, ↓reduceIte, vcu0, vcu1, vcu2, vcu3, vcu4, vcu5, vcu6, vcu7, vcu8, vcu9, vcu10, vcu11, vcu12, vcu13, vcu14, vcu15, vcu16, vcu17, vcu18, vcu19, vcu20, vcu21, vcu22, ↓vcd0, ↓vcd1, ↓vcd2, ↓vcd3]) (by simp -implicitDefEqProofs (disch := omega) only [List.any_cons, List.any_nil, Nat.reduceEqDiff, List.map_cons, List.map_nil, Option.map_some, Option.map_none, List.nil_append, ↓reduceIte, vcu0, vcu1, vcu2, vcu3, vcu4, vcu5, vcu6, vcu7, vcu8, vcu9, vcu10, vcu11, vcu12, vcu13, vcu14, vcu15, vcu16, vcu17, vcu18, vcu19, vcu20, vcu21, vcu22, ↓vcd0, ↓vcd1, ↓vcd2, ↓vcd3]) (by omega) fun gb τ1 nb s1 e1 => ?_
    simp -implicitDefEqProofs (disch := omega) only [List.any_cons, List.any_nil, Nat.reduceEqDiff, List.map_cons, List.map_nil, Option.map_some, Option.map_none, List.nil_append, ↓reduceIte, vcu0, vcu1, vcu2, vcu3, vcu4, vcu5, vcu6, vcu7, vcu8, vcu9, vcu10, vcu11, vcu12, vcu13, vcu14, vcu15, vcu16, vcu17, vcu18, vcu19, vcu20, vcu21, vcu22, ↓vcd0, ↓vcd1, ↓vcd2, ↓vcd3]
    refine r_lit el30 (out := #[]) (by kernel_rfl) (by kernel_rfl) fun e0 τ2 n2 s2 e2 => ?_
    have nb2 := free_sub s1 n2
    simp -implicitDefEqProofs (disch := omega) only [List.any_cons, List.any_nil, Nat.reduceEqDiff, List.map_cons, List.map_nil, Option.map_some, Option.map_none, List.nil_append, ↓reduceIte, vcu0, vcu1, vcu2, vcu3, vcu4, vcu5, vcu6, vcu7, vcu8, vcu9, vcu10, vcu11, vcu12, vcu13, vcu14, vcu15, vcu16, vcu17, vcu18, vcu19, vcu20, vcu21, vcu22, ↓vcd0, ↓vcd1, ↓vcd2, ↓vcd3]
    refine vc_loop_c mixed (by kernel_rfl) [0, 3, 4] (fun m a τ => ∃ k gs, m + k = 2 * H ∧ a 6 = .int .i64 (k : Nat) ∧ a 5 = .slice (some ⟨gs, 0, none⟩) k 1 ∧ Sub σ τ ∧ τ gs = some ⟨ints .i64 (tabZ k fun _ => -1), false⟩ ∧ σ gs = none ∧ gs ≠ gb ∧ τ gb = some ⟨ints .i64 (tabI (2 * H) (bp (2 * H) q k)), false⟩) (2 * H)
      ⟨0, e0, by simp, rfl, rfl, s1.trans s2, by simpa [tabZ, Go.Abs.ints] using e2, nb2, ne_of n2 e1, by rw [s2 _ _ e1, ← tabI_zero]; congr 3⟩ ?_
    rintro m a τ3 hc ⟨k, gs, hk, h6, h5, hs3, vs, ns, hsb, vb⟩
    simp -implicitDefEqProofs (disch := omega) only [List.any_cons, List.any_nil, Nat.reduceEqDiff, List.map_cons, List.map_nil, Option.map_some, Option.map_none, List.nil_append, ↓reduceIte, vcu0, vcu1, vcu2, vcu3, vcu4, vcu5, vcu6, vcu7, vcu8, vcu9, vcu10, vcu11, vcu12, vcu13, vcu14, vcu15, vcu16, vcu17, vcu18, vcu19, vcu20, vcu21, vcu22, ↓vcd0, ↓vcd1, ↓vcd2, ↓vcd3] at hc
    obtain ⟨h0, h3, h4, -⟩ := hc
    by_cases hlt : k < 2 * H
    · have lx := hx τ3 hs3 k hlt
      have hqk := hq.1 k hlt
      simp -implicitDefEqProofs (disch := omega) only [List.any_cons, List.any_nil, Nat.reduceEqDiff, List.map_cons, List.map_nil, Option.map_some, Option.map_none, List.nil_append, ↓reduceIte, vcu0, vcu1, vcu2, vcu3, vcu4, vcu5, vcu6, vcu7, vcu8, vcu9, vcu10, vcu11, vcu12, vcu13, vcu14, vcu15, vcu16, vcu17, vcu18, vcu19, vcu20, vcu21, vcu22, ↓vcd0, ↓vcd1, ↓vcd2, ↓vcd3, h0, h3, h4, h5, h6, lx]
      refine r_setI (g := gb) (i := 0 + q k) (v := (k : Int)) (by simp -implicitDefEqProofs (disch := omega) only [List.any_cons, List.any_nil, Nat.reduceEqDiff, List.map_cons, List.map_nil, Option.map_some, Option.map_none, List.nil_append, ↓reduceIte, vcu0, vcu1, vcu2, vcu3, vcu4, vcu5, vcu6, vcu7, vcu8, vcu9, vcu10, vcu11, vcu12, vcu13, vcu14, vcu15, vcu16, vcu17, vcu18, vcu19, vcu20, vcu21, vcu22, ↓vcd0, ↓vcd1, ↓vcd2, ↓vcd3, Int.toNat_natCast]) (by simp -implicitDefEqProofs (disch := omega) only [List.any_cons, List.any_nil, Nat.reduceEqDiff, List.map_cons, List.map_nil, Option.map_some, Option.map_none, List.nil_append, ↓reduceIte, vcu0, vcu1, vcu2, vcu3, vcu4, vcu5, vcu6, vcu7, vcu8, vcu9, vcu10, vcu11, vcu12, vcu13, vcu14, vcu15, vcu16, vcu17, vcu18, vcu19, vcu20, vcu21, vcu22, ↓vcd0, ↓vcd1, ↓vcd2, ↓vcd3]) co3 vb (by rw [tabI_length]; omega) fun τ4 k4 v4 => ?_
      rw [Nat.zero_add, tabI_set, tabI_congr fun o _ => bp_step hq hlt o] at v4
      have hs4 := k4.sub hs3 nb
      have vs4 := k4.at vs hsb
      simp -implicitDefEqProofs (disch := omega) only [List.any_cons, List.any_nil, Nat.reduceEqDiff, List.map_cons, List.map_nil, Option.map_some, Option.map_none, List.nil_append, ↓reduceIte, vcu0, vcu1, vcu2, vcu3, vcu4, vcu5, vcu6, vcu7, vcu8, vcu9, vcu10, vcu11, vcu12, vcu13, vcu14, vcu15, vcu16, vcu17, vcu18, vcu19, vcu20, vcu21, vcu22, ↓vcd0, ↓vcd1, ↓vcd2, ↓vcd3, h5]
      refine r_lit el30 (out := #[.int .i64 (-1)]) (by first | kernel_rfl | (simp -implicitDefEqProofs (disch := omega) only [List.any_cons, List.any_nil, Nat.reduceEqDiff, List.map_cons, List.map_nil, Option.map_some, Option.map_none, List.nil_append, ↓reduceIte, vcu0, vcu1, vcu2, vcu3, vcu4, vcu5, vcu6, vcu7, vcu8, vcu9, vcu10, vcu11, vcu12, vcu13, vcu14, vcu15, vcu16, vcu17, vcu18, vcu19, vcu20, vcu21, vcu22, ↓vcd0, ↓vcd1, ↓vcd2, ↓vcd3]; kernel_rfl)) (by rfl) fun e τ5 n5 s5 v5 => ?_
      refine r_pushI (g := gs) (e := e) (o := 0) (k := .i64) (xs := tabZ k fun _ => -1) (ys := [-1]) (m := 1) (len := k) el30 (by omega) sl30 (by simp -implicitDefEqProofs (disch := omega) only [List.any_cons, List.any_nil, Nat.reduceEqDiff, List.map_cons, List.map_nil, Option.map_some, Option.map_none, List.nil_append, ↓reduceIte, vcu0, vcu1, vcu2, vcu3, vcu4, vcu5, vcu6, vcu7, vcu8, vcu9, vcu10, vcu11, vcu12, vcu13, vcu14, vcu15, vcu16, vcu17, vcu18, vcu19, vcu20, vcu21, vcu22, ↓vcd0, ↓vcd1, ↓vcd2, ↓vcd3, h5]) (s5 _ _ vs4) (tabZ_length _ _) (by simp -implicitDefEqProofs (disch := omega) only [List.any_cons, List.any_nil, Nat.reduceEqDiff, List.map_cons, List.map_nil, Option.map_some, Option.map_none, List.nil_append, ↓reduceIte, vcu0, vcu1, vcu2, vcu3, vcu4, vcu5, vcu6, vcu7, vcu8, vcu9, vcu10, vcu11, vcu12, vcu13, vcu14, vcu15, vcu16, vcu17, vcu18, vcu19, vcu20, vcu21, vcu22, ↓vcd0, ↓vcd1, ↓vcd2, ↓vcd3]) (intsAt_own v5) rfl (by omega) fun g6 τ6 n6 k6 v6 => ?_
      rw [← tabZ_succ k fun _ => -1] at v6
      simp -implicitDefEqProofs (disch := omega) only [List.any_cons, List.any_nil, Nat.reduceEqDiff, List.map_cons, List.map_nil, Option.map_some, Option.map_none, List.nil_append, ↓reduceIte, vcu0, vcu1, vcu2, vcu3, vcu4, vcu5, vcu6, vcu7, vcu8, vcu9, vcu10, vcu11, vcu12, vcu13, vcu14, vcu15, vcu16, vcu17, vcu18, vcu19, vcu20, vcu21, vcu22, ↓vcd0, ↓vcd1, ↓vcd2, ↓vcd3, h0, h3, h4, h6]
      exact ⟨⟨trivial, trivial, trivial, trivial⟩, m - 1, by omega, k + 1, g6, by omega, by simp, rfl, k6.sub (hs4.trans s5) ns, v6, free_sub (hs4.trans s5) n6, ne_of n6 (s5 _ _ v4), k6.at (s5 _ _ v4) hsb.symm⟩
    obtain rfl : 2 * H = k := by omega
    clear hlt hk e1 e2 s1 s2 n2 nb2
    rw [tabI_congr fun o ho => bp_all hq ho] at vb
    have vs0 : τ3 gs = some ⟨ints .i64 (tabZ (2 * H) fun i => encS (call fl (gq (2 * H) q) (2 * H) 0 i)), false⟩ := vs
    simp -implicitDefEqProofs (disch := omega) only [List.any_cons, List.any_nil, Nat.reduceEqDiff, List.map_cons, List.map_nil, Option.map_some, Option.map_none, List.nil_append, ↓reduceIte, vcu0, vcu1, vcu2, vcu3, vcu4, vcu5, vcu6, vcu7, vcu8, vcu9, vcu10, vcu11, vcu12, vcu13, vcu14, vcu15, vcu16, vcu17, vcu18, vcu19, vcu20, vcu21, vcu22, ↓vcd0, ↓vcd1, ↓vcd2, ↓vcd3, h0, h3, h4, h5, h6]
    refine vc_loop_c mixed (by kernel_rfl) [0, 3, 4, 5] (fun m a τ => ∃ k, m + k = 2 * H ∧ a 7 = .int .i64 (k : Nat) ∧ Kept gs τ3 τ ∧ τ gs = some ⟨ints .i64 (tabZ (2 * H) fun i => encS (call fl (gq (2 * H) q) (2 * H) k i)), false⟩) (2 * H) ⟨0, by simp, rfl, Kept.refl _ _, vs0⟩ ?_
    rintro m2 a2 τ4 hc2 ⟨k, hk, h7, hk4, vs4⟩
    simp -implicitDefEqProofs (disch := omega) only [List.any_cons, List.any_nil, Nat.reduceEqDiff, List.map_cons, List.map_nil, Option.map_some, Option.map_none, List.nil_append, ↓reduceIte, vcu0, vcu1, vcu2, vcu3, vcu4, vcu5, vcu6, vcu7, vcu8, vcu9, vcu10, vcu11, vcu12, vcu13, vcu14, vcu15, vcu16, vcu17, vcu18, vcu19, vcu20, vcu21, vcu22, ↓vcd0, ↓vcd1, ↓vcd2, ↓vcd3, h0, h3, h4, h5] at hc2
    obtain ⟨g0, g3, g4, g5, -⟩ := hc2
    by_cases hlt : k < 2 * H
    · simp -implicitDefEqProofs (disch := omega) only [List.any_cons, List.any_nil, Nat.reduceEqDiff, List.map_cons, List.map_nil, Option.map_some, Option.map_none, List.nil_append, ↓reduceIte, vcu0, vcu1, vcu2, vcu3, vcu4, vcu5, vcu6, vcu7, vcu8, vcu9, vcu10, vcu11, vcu12, vcu13, vcu14, vcu15, vcu16, vcu17, vcu18, vcu19, vcu20, vcu21, vcu22, ↓vcd0, ↓vcd1, ↓vcd2, ↓vcd3, g0, g3, g4, g5, h7]
      refine vc_loop_c mixed (by kernel_rfl) [0, 3, 4, 5, 7] (fun m a τ => ∃ (s : Marks) (x : Nat), a 8 = .int .i64 x ∧ x < 2 * H ∧ cgo fl (gq (2 * H) q) m s x = call fl (gq (2 * H) q) (2 * H) (k + 1) ∧ free s (2 * H) ≤ m ∧ Kept gs τ3 τ ∧ τ gs = some ⟨ints .i64 (tabZ (2 * H) fun i => encS (s i)), false⟩) (2 * H) ⟨_, k, rfl, hlt, rfl, free_le _ _, hk4, vs4⟩ ?_
      rintro m3 a3 τ5 hc3 ⟨s, x, h8, hxl, hcg, hfr, hk5, vs5⟩
      simp -implicitDefEqProofs (disch := omega) only [List.any_cons, List.any_nil, Nat.reduceEqDiff, List.map_cons, List.map_nil, Option.map_some, Option.map_none, List.nil_append, ↓reduceIte, vcu0, vcu1, vcu2, vcu3, vcu4, vcu5, vcu6, vcu7, vcu8, vcu9, vcu10, vcu11, vcu12, vcu13, vcu14, vcu15, vcu16, vcu17, vcu18, vcu19, vcu20, vcu21, vcu22, ↓vcd0, ↓vcd1, ↓vcd2, ↓vcd3, g0, g3, g4, g5, h7] at hc3
      obtain ⟨e0', e3, e4, e5, e7, -⟩ := hc3
      have lsx := intsAt_own vs5 x (by rw [tabZ_length]; exact hxl)
      rw [tabZ_getD hxl] at lsx
      cases hsx : s x with
      | none =>
        rw [hsx] at lsx
        have hen : encS none = -1 := rfl
        rw [hen] at lsx
        have hpos := free_pos hsx (2 * H) hxl
        obtain ⟨m4, rfl⟩ : ∃ m4, m3 = m4 + 1 := ⟨m3 - 1, by omega⟩
        rw [cgo_none hsx] at hcg
        have hfr2 := free_cstep (g := gq (2 * H) q) hxl hsx
        have hqx := hq.1 x hxl
        have hfx := F.lt _ hqx
        have hgx := G.lt x hxl
        have hfg := F.lt _ hgx
        simp -implicitDefEqProofs (disch := omega) only [List.any_cons, List.any_nil, Nat.reduceEqDiff, List.map_cons, List.map_nil, Option.map_some, Option.map_none, List.nil_append, ↓reduceIte, vcu0, vcu1, vcu2, vcu3, vcu4, vcu5, vcu6, vcu7, vcu8, vcu9, vcu10, vcu11, vcu12, vcu13, vcu14, vcu15, vcu16, vcu17, vcu18, vcu19, vcu20, vcu21, vcu22, ↓vcd0, ↓vcd1, ↓vcd2, ↓vcd3, e0', e3, e4, e5, e7, h8, lsx]
        refine r_setI (g := gs) (i := 0 + x) (v := 0) (by simp -implicitDefEqProofs (disch := omega) only [List.any_cons, List.any_nil, Nat.reduceEqDiff, List.map_cons, List.map_nil, Option.map_some, Option.map_none, List.nil_append, ↓reduceIte, vcu0, vcu1, vcu2, vcu3, vcu4, vcu5, vcu6, vcu7, vcu8, vcu9, vcu10, vcu11, vcu12, vcu13, vcu14, vcu15, vcu16, vcu17, vcu18, vcu19, vcu20, vcu21, vcu22, ↓vcd0, ↓vcd1, ↓vcd2, ↓vcd3, Int.toNat_natCast]) (by simp -implicitDefEqProofs (disch := omega) only [List.any_cons, List.any_nil, Nat.reduceEqDiff, List.map_cons, List.map_nil, Option.map_some, Option.map_none, List.nil_append, ↓reduceIte, vcu0, vcu1, vcu2, vcu3, vcu4, vcu5, vcu6, vcu7, vcu8, vcu9, vcu10, vcu11, vcu12, vcu13, vcu14, vcu15, vcu16, vcu17, vcu18, vcu19, vcu20, vcu21, vcu22, ↓vcd0, ↓vcd1, ↓vcd2, ↓vcd3]) co3 vs5 (by rw [tabZ_length]; omega) fun τ6 k6 v6 => ?_
        have hen0 : encS (some false) = 0 := rfl
        rw [Nat.zero_add, tabZ_set, ← hen0, encS_upd s x (some false)] at v6
        have vb6 := k6.at (hk5.at vb hsb.symm) hsb.symm
        have hs6 : Sub σ τ6 := k6.sub (hk5.sub hs3 ns) ns
        have lx := hx τ6 hs6 x hxl
        have lb := intsAt_own vb6 (fl (q x)) (by rw [tabI_length]; exact hfx)
        rw [tabI_getD hfx, Nat.zero_add] at lb
        have hgq : bk (2 * H) q (fl (q x)) = gq (2 * H) q x := rfl
        rw [hgq] at lb
        have efl : (q x : Int) / 2 * 2 + 1 - (q x : Int) % 2 = ((fl (q x) : Nat) : Int) := by unfold fl; omega
        have efl2 : (gq (2 * H) q x : Int) / 2 * 2 + 1 - (gq (2 * H) q x : Int) % 2 = ((fl (gq (2 * H) q x) : Nat) : Int) := by unfold fl; omega
        simp -implicitDefEqProofs (disch := omega) only [List.any_cons, List.any_nil, Nat.reduceEqDiff, List.map_cons, List.map_nil, Option.map_some, Option.map_none, List.nil_append, ↓reduceIte, vcu0, vcu1, vcu2, vcu3, vcu4, vcu5, vcu6, vcu7, vcu8, vcu9, vcu10, vcu11, vcu12, vcu13, vcu14, vcu15, vcu16, vcu17, vcu18, vcu19, vcu20, vcu21, vcu22, ↓vcd0, ↓vcd1, ↓vcd2, ↓vcd3, e0', e3, e4, e5, e7, h8, lx, efl, lb, Int.toNat_natCast, Nat.zero_add]
        refine r_setI (g := gs) (i := gq (2 * H) q x) (v := 1) (by simp -implicitDefEqProofs (disch := omega) only [List.any_cons, List.any_nil, Nat.reduceEqDiff, List.map_cons, List.map_nil, Option.map_some, Option.map_none, List.nil_append, ↓reduceIte, vcu0, vcu1, vcu2, vcu3, vcu4, vcu5, vcu6, vcu7, vcu8, vcu9, vcu10, vcu11, vcu12, vcu13, vcu14, vcu15, vcu16, vcu17, vcu18, vcu19, vcu20, vcu21, vcu22, ↓vcd0, ↓vcd1, ↓vcd2, ↓vcd3, Int.toNat_natCast, Nat.zero_add]) (by simp -implicitDefEqProofs (disch := omega) only [List.any_cons, List.any_nil, Nat.reduceEqDiff, List.map_cons, List.map_nil, Option.map_some, Option.map_none, List.nil_append, ↓reduceIte, vcu0, vcu1, vcu2, vcu3, vcu4, vcu5, vcu6, vcu7, vcu8, vcu9, vcu10, vcu11, vcu12, vcu13, vcu14, vcu15, vcu16, vcu17, vcu18, vcu19, vcu20, vcu21, vcu22, ↓vcd0, ↓vcd1, ↓vcd2, ↓vcd3]) co3 v6 (by rw [tabZ_length]; omega) fun τ7 k7 v7 => ?_
        have hen1 : encS (some true) = 1 := rfl
        rw [tabZ_set, ← hen1, encS_upd (upd s x (some false)) (gq (2 * H) q x) (some true)] at v7
        simp -implicitDefEqProofs (disch := omega) only [List.any_cons, List.any_nil, Nat.reduceEqDiff, List.map_cons, List.map_nil, Option.map_some, Option.map_none, List.nil_append, ↓reduceIte, vcu0, vcu1, vcu2, vcu3, vcu4, vcu5, vcu6, vcu7, vcu8, vcu9, vcu10, vcu11, vcu12, vcu13, vcu14, vcu15, vcu16, vcu17, vcu18, vcu19, vcu20, vcu21, vcu22, ↓vcd0, ↓vcd1, ↓vcd2, ↓vcd3, e0', e3, e4, e5, e7, h8, efl2]
        exact ⟨⟨g0.symm, g3.symm, g4.symm, g5.symm, h7.symm, trivial⟩, m4, by omega, cstep (gq (2 * H) q) s x, fl (gq (2 * H) q x), rfl, hfg, hcg, by omega, hk5.trans (k6.trans k7), v7⟩
      | some b =>
        rw [hsx] at lsx
        have hb : 0 ≤ encS (some b) := by cases b <;> decide
        have hne : s x ≠ none := by rw [hsx]; simp
        rw [cgo_some hne] at hcg
        rw [hcg] at vs5
        simp -implicitDefEqProofs (disch := omega) only [List.any_cons, List.any_nil, Nat.reduceEqDiff, List.map_cons, List.map_nil, Option.map_some, Option.map_none, List.nil_append, ↓reduceIte, vcu0, vcu1, vcu2, vcu3, vcu4, vcu5, vcu6, vcu7, vcu8, vcu9, vcu10, vcu11, vcu12, vcu13, vcu14, vcu15, vcu16, vcu17, vcu18, vcu19, vcu20, vcu21, vcu22, ↓vcd0, ↓vcd1, ↓vcd2, ↓vcd3, e0', e3, e4, e5, e7, h8, lsx]
        exact ⟨⟨h0.symm, h3.symm, h4.symm, h5.symm, trivial⟩, m2 - 1, by omega, k + 1, by omega, by simp, hk5, vs5⟩
    obtain rfl : 2 * H = k := by omega
    clear hlt hk vs0 vs
    rw [tabZ_congr (f' := fun i => if lowQ H q i = true then 1 else 0) fun i hi => by rw [call_end hq hi]; cases lowQ H q i <;> rfl] at vs4
    have vb4 := hk4.at vb hsb.symm
    have hs4 : Sub σ τ4 := hk4.sub hs3 ns
    clear vb hs3 hk4
    have ed : ((2 * H : Nat) : Int) / 2 = (H : Int) := by omega
    simp -implicitDefEqProofs (disch := omega) only [List.any_cons, List.any_nil, Nat.reduceEqDiff, List.map_cons, List.map_nil, Option.map_some, Option.map_none, List.nil_append, ↓reduceIte, vcu0, vcu1, vcu2, vcu3, vcu4, vcu5, vcu6, vcu7, vcu8, vcu9, vcu10, vcu11, vcu12, vcu13, vcu14, vcu15, vcu16, vcu17, vcu18, vcu19, vcu20, vcu21, vcu22, ↓vcd0, ↓vcd1, ↓vcd2, ↓vcd3, g0, g3, g4, g5, h7, ed]
    refine r_makeB (kx := .i64) (ky := .i64) (l := H) (c := H) el27 (by omega) (by simp -implicitDefEqProofs (disch := omega) only [List.any_cons, List.any_nil, Nat.reduceEqDiff, List.map_cons, List.map_nil, Option.map_some, Option.map_none, List.nil_append, ↓reduceIte, vcu0, vcu1, vcu2, vcu3, vcu4, vcu5, vcu6, vcu7, vcu8, vcu9, vcu10, vcu11, vcu12, vcu13, vcu14, vcu15, vcu16, vcu17, vcu18, vcu19, vcu20, vcu21, vcu22, ↓vcd0, ↓vcd1, ↓vcd2, ↓vcd3]) (by simp -implicitDefEqProofs (disch := omega) only [List.any_cons, List.any_nil, Nat.reduceEqDiff, List.map_cons, List.map_nil, Option.map_some, Option.map_none, List.nil_append, ↓reduceIte, vcu0, vcu1, vcu2, vcu3, vcu4, vcu5, vcu6, vcu7, vcu8, vcu9, vcu10, vcu11, vcu12, vcu13, vcu14, vcu15, vcu16, vcu17, vcu18, vcu19, vcu20, vcu21, vcu22, ↓vcd0, ↓vcd1, ↓vcd2, ↓vcd3]) (by omega) fun g11 τ5 n11 s5 v11 => ?_
    simp -implicitDefEqProofs (disch := omega) only [List.any_cons, List.any_nil, Nat.reduceEqDiff, List.map_cons, List.map_nil, Option.map_some, Option.map_none, List.nil_append, ↓reduceIte, vcu0, vcu1, vcu2, vcu3, vcu4, vcu5, vcu6, vcu7, vcu8, vcu9, vcu10, vcu11, vcu12, vcu13, vcu14, vcu15, vcu16, vcu17, vcu18, vcu19, vcu20, vcu21, vcu22, ↓vcd0, ↓vcd1, ↓vcd2, ↓vcd3]
    refine r_makeB (kx := .i64) (ky := .i64) (l := H) (c := H) el27 (by omega) (by simp -implicitDefEqProofs (disch := omega) only [List.any_cons, List.any_nil, Nat.reduceEqDiff, List.map_cons, List.map_nil, Option.map_some, Option.map_none, List.nil_append, ↓reduceIte, vcu0, vcu1, vcu2, vcu3, vcu4, vcu5, vcu6, vcu7, vcu8, vcu9, vcu10, vcu11, vcu12, vcu13, vcu14, vcu15, vcu16, vcu17, vcu18, vcu19, vcu20, vcu21, vcu22, ↓vcd0, ↓vcd1, ↓vcd2, ↓vcd3]) (by simp -implicitDefEqProofs (disch := omega) only [List.any_cons, List.any_nil, Nat.reduceEqDiff, List.map_cons, List.map_nil, Option.map_some, Option.map_none, List.nil_append, ↓reduceIte, vcu0, vcu1, vcu2, vcu3, vcu4, vcu5, vcu6, vcu7, vcu8, vcu9, vcu10, vcu11, vcu12, vcu13, vcu14, vcu15, vcu16, vcu17, vcu18, vcu19, vcu20, vcu21, vcu22, ↓vcd0, ↓vcd1, ↓vcd2, ↓vcd3]) (by omega) fun g12 τ6 n12 s6 v12 => ?_
    simp -implicitDefEqProofs (disch := omega) only [List.any_cons, List.any_nil, Nat.reduceEqDiff, List.map_cons, List.map_nil, Option.map_some, Option.map_none, List.nil_append, ↓reduceIte, vcu0, vcu1, vcu2, vcu3, vcu4, vcu5, vcu6, vcu7, vcu8, vcu9, vcu10, vcu11, vcu12, vcu13, vcu14, vcu15, vcu16, vcu17, vcu18, vcu19, vcu20, vcu21, vcu22, ↓vcd0, ↓vcd1, ↓vcd2, ↓vcd3]
    refine r_makeI (kx := .i64) (ky := .i64) (l := H) (c := H) el30 (by omega) (by simp -implicitDefEqProofs (disch := omega) only [List.any_cons, List.any_nil, Nat.reduceEqDiff, List.map_cons, List.map_nil, Option.map_some, Option.map_none, List.nil_append, ↓reduceIte, vcu0, vcu1, vcu2, vcu3, vcu4, vcu5, vcu6, vcu7, vcu8, vcu9, vcu10, vcu11, vcu12, vcu13, vcu14, vcu15, vcu16, vcu17, vcu18, vcu19, vcu20, vcu21, vcu22, ↓vcd0, ↓vcd1, ↓vcd2, ↓vcd3]) (by simp -implicitDefEqProofs (disch := omega) only [List.any_cons, List.any_nil, Nat.reduceEqDiff, List.map_cons, List.map_nil, Option.map_some, Option.map_none, List.nil_append, ↓reduceIte, vcu0, vcu1, vcu2, vcu3, vcu4, vcu5, vcu6, vcu7, vcu8, vcu9, vcu10, vcu11, vcu12, vcu13, vcu14, vcu15, vcu16, vcu17, vcu18, vcu19, vcu20, vcu21, vcu22, ↓vcd0, ↓vcd1, ↓vcd2, ↓vcd3]) (by omega) fun g13 τ7 n13 s7 v13 => ?_
    simp -implicitDefEqProofs (disch := omega) only [List.any_cons, List.any_nil, Nat.reduceEqDiff, List.map_cons, List.map_nil, Option.map_some, Option.map_none, List.nil_append, ↓reduceIte, vcu0, vcu1, vcu2, vcu3, vcu4, vcu5, vcu6, vcu7, vcu8, vcu9, vcu10, vcu11, vcu12, vcu13, vcu14, vcu15, vcu16, vcu17, vcu18, vcu19, vcu20, vcu21, vcu22, ↓vcd0, ↓vcd1, ↓vcd2, ↓vcd3]
    refine r_makeI (kx := .i64) (ky := .i64) (l := H) (c := H) el30 (by omega) (by simp -implicitDefEqProofs (disch := omega) only [List.any_cons, List.any_nil, Nat.reduceEqDiff, List.map_cons, List.map_nil, Option.map_some, Option.map_none, List.nil_append, ↓reduceIte, vcu0, vcu1, vcu2, vcu3, vcu4, vcu5, vcu6, vcu7, vcu8, vcu9, vcu10, vcu11, vcu12, vcu13, vcu14, vcu15, vcu16, vcu17, vcu18, vcu19, vcu20, vcu21, vcu22, ↓vcd0, ↓vcd1, ↓vcd2, ↓vcd3]) (by simp -implicitDefEqProofs (disch := omega) only [List.any_cons, List.any_nil, Nat.reduceEqDiff, List.map_cons, List.map_nil, Option.map_some, Option.map_none, List.nil_append, ↓reduceIte, vcu0, vcu1, vcu2, vcu3, vcu4, vcu5, vcu6, vcu7, vcu8, vcu9, vcu10, vcu11, vcu12, vcu13, vcu14, vcu15, vcu16, vcu17, vcu18, vcu19, vcu20, vcu21, vcu22, ↓vcd0, ↓vcd1, ↓vcd2, ↓vcd3]) (by omega) fun g14 τ8 n14 s8 v14 => ?_
    have d1 : gs ≠ g11 := ne_of' n11 vs4
    have d2 : gs ≠ g12 := ne_of' n12 (s5 _ _ vs4)
    have d3 : gs ≠ g13 := ne_of' n13 (s6 _ _ (s5 _ _ vs4))
    have d4 : gs ≠ g14 := ne_of' n14 (s7 _ _ (s6 _ _ (s5 _ _ vs4)))
    have d12 : g11 ≠ g12 := ne_of' n12 v11
    have d13 : g11 ≠ g13 := ne_of' n13 (s6 _ _ v11)
    have d14 : g11 ≠ g14 := ne_of' n14 (s7 _ _ (s6 _ _ v11))
    have d23 : g12 ≠ g13 := ne_of' n13 v12
    have d24 : g12 ≠ g14 := ne_of' n14 (s7 _ _ v12)
    have d34 : g13 ≠ g14 := ne_of' n14 v13
    have nσ11 : σ g11 = none := free_sub hs4 n11
    have nσ12 : σ g12 = none := free_sub (hs4.trans s5) n12
    have nσ13 : σ g13 = none := free_sub (hs4.trans (s5.trans s6)) n13
    have nσ14 : σ g14 = none := free_sub (hs4.trans (s5.trans (s6.trans s7))) n14
    have hs8 : Sub σ τ8 := hs4.trans (s5.trans (s6.trans (s7.trans s8)))
    have w5 := s8 _ _ (s7 _ _ (s6 _ _ (s5 _ _ vs4)))
    have w11 : τ8 g11 = some ⟨bools (tabB H (begK H q 0)), false⟩ := by rw [s8 _ _ (s7 _ _ (s6 _ _ v11)), ← tabB_false]; congr 3
    have w12 : τ8 g12 = some ⟨bools (tabB H (endK H q 0)), false⟩ := by rw [s8 _ _ (s7 _ _ v12), ← tabB_false]; congr 3
    have w13 : τ8 g13 = some ⟨ints .i64 (tabI H (upK H q 0)), false⟩ := by rw [s8 _ _ v13, ← tabI_zero]; congr 3
    have w14 : τ8 g14 = some ⟨ints .i64 (tabI H (lowK H q 0)), false⟩ := by rw [v14, ← tabI_zero]; congr 3
    clear v11 v12 v13 v14 vs4 vb4 s5 s6 s7 s8 hs4 n11 n12 n13 n14 hsb nb
    simp -implicitDefEqProofs (disch := omega) only [List.any_cons, List.any_nil, Nat.reduceEqDiff, List.map_cons, List.map_nil, Option.map_some, Option.map_none, List.nil_append, ↓reduceIte, vcu0, vcu1, vcu2, vcu3, vcu4, vcu5, vcu6, vcu7, vcu8, vcu9, vcu10, vcu11, vcu12, vcu13, vcu14, vcu15, vcu16, vcu17, vcu18, vcu19, vcu20, vcu21, vcu22, ↓vcd0, ↓vcd1, ↓vcd2, ↓vcd3]
    refine vc_loop_c mixed (by kernel_rfl) [0, 3, 5, 10, 11, 12, 13, 14] (fun m a τ => ∃ k, m + k = 2 * H ∧ a 15 = .int .i64 (k : Nat) ∧ Sub σ τ ∧ τ gs = some ⟨ints .i64 (tabZ (2 * H) fun i => if lowQ H q i = true then 1 else 0), false⟩ ∧ τ g11 = some ⟨bools (tabB H (begK H q k)), false⟩ ∧ τ g12 = some ⟨bools (tabB H (endK H q k)), false⟩ ∧ τ g13 = some ⟨ints .i64 (tabI H (upK H q k)), false⟩ ∧ τ g14 = some ⟨ints .i64 (tabI H (lowK H q k)), false⟩) (2 * H) ⟨0, by simp, rfl, hs8, w5, w11, w12, w13, w14⟩ ?_
    clear w5 w11 w12 w13 w14 hs8 τ8
    rintro m4 a4 τ8 hc4 ⟨k, hk, h15, hs8, w5, w11, w12, w13, w14⟩
    simp -implicitDefEqProofs (disch := omega) only [List.any_cons, List.any_nil, Nat.reduceEqDiff, List.map_cons, List.map_nil, Option.map_some, Option.map_none, List.nil_append, ↓reduceIte, vcu0, vcu1, vcu2, vcu3, vcu4, vcu5, vcu6, vcu7, vcu8, vcu9, vcu10, vcu11, vcu12, vcu13, vcu14, vcu15, vcu16, vcu17, vcu18, vcu19, vcu20, vcu21, vcu22, ↓vcd0, ↓vcd1, ↓vcd2, ↓vcd3, g0, g3, g4, g5, ed] at hc4
    obtain ⟨f0, f3, f5, f10, f11, f12, f13, f14, -⟩ := hc4
    by_cases hlt : k < 2 * H
    · have hk2 : k / 2 < H := by omega
      have hqk := hq.1 k hlt
      have hq2 : q k / 2 < H := by omega
      have ek : (k : Int) / 2 = ((k / 2 : Nat) : Int) := by omega
      have eq2 : (q k : Int) / 2 = ((q k / 2 : Nat) : Int) := by omega
      have lx := hx τ8 hs8 k hlt
      have ls := intsAt_own w5 k (by rw [tabZ_length]; exact hlt)
      rw [tabZ_getD hlt] at ls
      have hbg := bgn_at hq hlt
      have hen := end_at hq hlt
      have bor := begK_or H q k
      have eor := endK_or H q k
      have bst : ∀ {v : Bool}, v = bgn H q (k / 2) → (tabB H (begK H q k)).set (k / 2) v = tabB H (begK H q (k + 1)) := fun {v} hv => by
        rw [tabB_set, hv]; exact tabB_congr fun j _ => begK_step H q k j
      have est : ∀ {v : Bool}, v = end' H q (q k / 2) → (tabB H (endK H q k)).set (q k / 2) v = tabB H (endK H q (k + 1)) := fun {v} hv => by
        rw [tabB_set, hv]; exact tabB_congr fun j _ => endK_step H q k j
      have lb0 := own_atB w11 (i := k / 2) (by rw [tabB_length]; exact hk2)
      rw [tabB_getD hk2] at lb0
      have le0 := own_atB w12 (i := q k / 2) (by rw [tabB_length]; exact hq2)
      rw [tabB_getD hq2] at le0
      have hend : ∀ τ, Sub σ τ → τ gs = some ⟨ints .i64 (tabZ (2 * H) fun i => if lowQ H q i = true then 1 else 0), false⟩ → True := fun _ _ _ => trivial
      cases hb : lowQ H q k with
      | true =>
        rw [hb] at ls hbg hen
        have e1 : (if (true : Bool) = true then (1 : Int) else 0) = 1 := rfl
        rw [e1] at ls
        have hvb : decide ((1 : Int) ≠ (k : Int) % 2) = bgn H q (k / 2) := by
          rw [← hbg]
          by_cases e : k % 2 = 1
          · have : (k : Int) % 2 = 1 := by omega
            simp [e, this]
          · have : (k : Int) % 2 = 0 := by omega
            simp [e, this]
        have hve : decide ((1 : Int) ≠ (q k : Int) % 2) = end' H q (q k / 2) := by
          rw [← hen]
          by_cases e : q k % 2 = 1
          · have : (q k : Int) % 2 = 1 := by omega
            simp [e, this]
          · have : (q k : Int) % 2 = 0 := by omega
            simp [e, this]
        simp -implicitDefEqProofs (disch := omega) only [List.any_cons, List.any_nil, Nat.reduceEqDiff, List.map_cons, List.map_nil, Option.map_some, Option.map_none, List.nil_append, ↓reduceIte, vcu0, vcu1, vcu2, vcu3, vcu4, vcu5, vcu6, vcu7, vcu8, vcu9, vcu10, vcu11, vcu12, vcu13, vcu14, vcu15, vcu16, vcu17, vcu18, vcu19, vcu20, vcu21, vcu22, ↓vcd0, ↓vcd1, ↓vcd2, ↓vcd3, f0, f3, f5, f10, f11, f12, f13, f14, h15, ek, lx, ls, eq2, Int.toNat_natCast]
        refine r_setI (g := g14) (i := 0 + k / 2) (v := ((q k / 2 : Nat) : Int)) (by simp -implicitDefEqProofs (disch := omega) only [List.any_cons, List.any_nil, Nat.reduceEqDiff, List.map_cons, List.map_nil, Option.map_some, Option.map_none, List.nil_append, ↓reduceIte, vcu0, vcu1, vcu2, vcu3, vcu4, vcu5, vcu6, vcu7, vcu8, vcu9, vcu10, vcu11, vcu12, vcu13, vcu14, vcu15, vcu16, vcu17, vcu18, vcu19, vcu20, vcu21, vcu22, ↓vcd0, ↓vcd1, ↓vcd2, ↓vcd3]) (by simp -implicitDefEqProofs (disch := omega) only [List.any_cons, List.any_nil, Nat.reduceEqDiff, List.map_cons, List.map_nil, Option.map_some, Option.map_none, List.nil_append, ↓reduceIte, vcu0, vcu1, vcu2, vcu3, vcu4, vcu5, vcu6, vcu7, vcu8, vcu9, vcu10, vcu11, vcu12, vcu13, vcu14, vcu15, vcu16, vcu17, vcu18, vcu19, vcu20, vcu21, vcu22, ↓vcd0, ↓vcd1, ↓vcd2, ↓vcd3]) co3 w14 (by rw [tabI_length]; omega) fun τ9 k9 v9 => ?_
        rw [Nat.zero_add, tabI_set, tabI_congr fun j hj => (low_step hq hlt hb j hj).1] at v9
        have v13' := k9.at w13 d34
        rw [tabI_congr fun j hj => (low_step hq hlt hb j hj).2] at v13'
        have v14' := v9
        have hs9 := k9.sub hs8 nσ14
        have x5 := k9.at w5 d4
        have x11 := k9.at w11 d14
        have x12 := k9.at w12 d24
        have ls9 := intsAt_own x5 k (by rw [tabZ_length]; exact hlt)
        rw [tabZ_getD hlt, hb, e1] at ls9
        have lb9 := own_atB x11 (i := k / 2) (by rw [tabB_length]; exact hk2)
        rw [tabB_getD hk2] at lb9
        cases hcb : begK H q k (k / 2) with
        | true =>
          rw [hcb] at lb9 bor
          simp -implicitDefEqProofs (disch := omega) only [List.any_cons, List.any_nil, Nat.reduceEqDiff, List.map_cons, List.map_nil, Option.map_some, Option.map_none, List.nil_append, ↓reduceIte, vcu0, vcu1, vcu2, vcu3, vcu4, vcu5, vcu6, vcu7, vcu8, vcu9, vcu10, vcu11, vcu12, vcu13, vcu14, vcu15, vcu16, vcu17, vcu18, vcu19, vcu20, vcu21, vcu22, ↓vcd0, ↓vcd1, ↓vcd2, ↓vcd3, f0, f3, f5, f10, f11, f12, f13, f14, h15, ek, lb9, ls9, hvb, Int.toNat_natCast]
          refine r_setB (g := g11) (i := 0 + k / 2) (v := true) (by simp -implicitDefEqProofs (disch := omega) only [List.any_cons, List.any_nil, Nat.reduceEqDiff, List.map_cons, List.map_nil, Option.map_some, Option.map_none, List.nil_append, ↓reduceIte, vcu0, vcu1, vcu2, vcu3, vcu4, vcu5, vcu6, vcu7, vcu8, vcu9, vcu10, vcu11, vcu12, vcu13, vcu14, vcu15, vcu16, vcu17, vcu18, vcu19, vcu20, vcu21, vcu22, ↓vcd0, ↓vcd1, ↓vcd2, ↓vcd3]) (by simp -implicitDefEqProofs (disch := omega) only [List.any_cons, List.any_nil, Nat.reduceEqDiff, List.map_cons, List.map_nil, Option.map_some, Option.map_none, List.nil_append, ↓reduceIte, vcu0, vcu1, vcu2, vcu3, vcu4, vcu5, vcu6, vcu7, vcu8, vcu9, vcu10, vcu11, vcu12, vcu13, vcu14, vcu15, vcu16, vcu17, vcu18, vcu19, vcu20, vcu21, vcu22, ↓vcd0, ↓vcd1, ↓vcd2, ↓vcd3]) co4 x11 (by rw [tabB_length]; omega) fun τ10 k10 v10 => ?_
          rw [Nat.zero_add, bst (by rw [← bor]; rfl)] at v10
          have hs10 := k10.sub hs9 nσ11
          have y5 := k10.at x5 d1
          have y12 := k10.at x12 d12.symm
          have y13 := k10.at v13' d13.symm
          have y14 := k10.at v14' d14.symm
          have ls10 := intsAt_own y5 k (by rw [tabZ_length]; exact hlt)
          rw [tabZ_getD hlt, hb, e1] at ls10
          have le10 := own_atB y12 (i := q k / 2) (by rw [tabB_length]; exact hq2)
          rw [tabB_getD hq2] at le10
          have lx10 := hx τ10 hs10 k hlt
          cases hce : endK H q k (q k / 2) with
          | true =>
            rw [hce] at le10 eor
            refine region_tree mixed (quiets [0, 1, 2, 3, 4, 5, 6, 7, 8, 9, 10, 11, 12, 13, 14, 15, 16, 17, 18, 19, 20, 21, 22, 23, 24, 25, 26] (.one 27 .stop)) [([0, 1, 2, 3, 4, 5, 6, 7, 8, 9, 10, 11, 12, 13, 14, 15, 16, 17, 18, 19, 20, 21, 22, 23, 24, 25, 26], Sub τ10)] (by kernel_rfl) (by kernel_rfl) (fun p hp => by simp only [List.mem_singleton] at hp; subst hp; exact Sub.refl _) ?_
            refine tree_quiets τ10 _ _ _ sf1 (by kernel_rfl) (by kernel_rfl) ?_
            simp -implicitDefEqProofs (disch := omega) only [List.any_cons, List.any_nil, Nat.reduceEqDiff, List.map_cons, List.map_nil, Option.map_some, Option.map_none, List.nil_append, ↓reduceIte, vcu0, vcu1, vcu2, vcu3, vcu4, vcu5, vcu6, vcu7, vcu8, vcu9, vcu10, vcu11, vcu12, vcu13, vcu14, vcu15, vcu16, vcu17, vcu18, vcu19, vcu20, vcu21, vcu22, ↓vcd0, ↓vcd1, ↓vcd2, ↓vcd3, pickOps_nil, pickOps_cons, pickO_some, List.getElem?_cons_succ, List.getElem?_cons_zero, f0, f3, f5, f10, f11, f12, f13, f14, h15, lx10, eq2, le10, ls10, hve, Int.toNat_natCast]
            refine tree_one rfl ?_
            refine r_setB (g := g12) (i := 0 + q k / 2) (v := true) (by simp -implicitDefEqProofs (disch := omega) only [List.any_cons, List.any_nil, Nat.reduceEqDiff, List.map_cons, List.map_nil, Option.map_some, Option.map_none, List.nil_append, ↓reduceIte, vcu0, vcu1, vcu2, vcu3, vcu4, vcu5, vcu6, vcu7, vcu8, vcu9, vcu10, vcu11, vcu12, vcu13, vcu14, vcu15, vcu16, vcu17, vcu18, vcu19, vcu20, vcu21, vcu22, ↓vcd0, ↓vcd1, ↓vcd2, ↓vcd3]) (by simp -implicitDefEqProofs (disch := omega) only [List.any_cons, List.any_nil, Nat.reduceEqDiff, List.map_cons, List.map_nil, Option.map_some, Option.map_none, List.nil_append, ↓reduceIte, vcu0, vcu1, vcu2, vcu3, vcu4, vcu5, vcu6, vcu7, vcu8, vcu9, vcu10, vcu11, vcu12, vcu13, vcu14, vcu15, vcu16, vcu17, vcu18, vcu19, vcu20, vcu21, vcu22, ↓vcd0, ↓vcd1, ↓vcd2, ↓vcd3]) co4 y12 (by rw [tabB_length]; omega) fun τ11 k11 v11 => ?_
            rw [Nat.zero_add, est (by rw [← eor]; rfl)] at v11
            simp -implicitDefEqProofs (disch := omega) only [List.any_cons, List.any_nil, Nat.reduceEqDiff, List.map_cons, List.map_nil, Option.map_some, Option.map_none, List.nil_append, ↓reduceIte, vcu0, vcu1, vcu2, vcu3, vcu4, vcu5, vcu6, vcu7, vcu8, vcu9, vcu10, vcu11, vcu12, vcu13, vcu14, vcu15, vcu16, vcu17, vcu18, vcu19, vcu20, vcu21, vcu22, ↓vcd0, ↓vcd1, ↓vcd2, ↓vcd3]
            refine ⟨keep_of rfl (fun p hp => by simp only [List.mem_singleton] at hp; subst hp; exact .inl (by kernel_rfl)), tree_stop ?_⟩
            simp -implicitDefEqProofs (disch := omega) only [List.any_cons, List.any_nil, Nat.reduceEqDiff, List.map_cons, List.map_nil, Option.map_some, Option.map_none, List.nil_append, ↓reduceIte, vcu0, vcu1, vcu2, vcu3, vcu4, vcu5, vcu6, vcu7, vcu8, vcu9, vcu10, vcu11, vcu12, vcu13, vcu14, vcu15, vcu16, vcu17, vcu18, vcu19, vcu20, vcu21, vcu22, ↓vcd0, ↓vcd1, ↓vcd2, ↓vcd3, f0, f3, f5, f10, f11, f12, f13, f14, h15]
            exact ⟨⟨g0.symm, g3.symm, g5.symm, trivial, trivial, trivial, trivial, trivial, trivial⟩, m4 - 1, by omega, k + 1, by omega, by simp, k11.sub hs10 nσ12, k11.at y5 d2, k11.at v10 d12, v11, k11.at y13 d23.symm, k11.at y14 d24.symm⟩
          | false =>
            rw [hce] at le10 eor
            refine region_tree mixed (quiets [0, 1, 2, 3, 4, 5, 6, 7, 8, 9, 10, 11, 12, 13, 14, 15, 16, 17, 18, 19, 20, 21, 22, 23, 24, 25, 26] (.one 27 .stop)) [([0, 1, 2, 3, 4, 5, 6, 7, 8, 9, 10, 11, 12, 13, 14, 15, 16, 17, 18, 19, 20, 21, 22, 23, 24, 25, 26], Sub τ10)] (by kernel_rfl) (by kernel_rfl) (fun p hp => by simp only [List.mem_singleton] at hp; subst hp; exact Sub.refl _) ?_
            refine tree_quiets τ10 _ _ _ sf1 (by kernel_rfl) (by kernel_rfl) ?_
            simp -implicitDefEqProofs (disch := omega) only [List.any_cons, List.any_nil, Nat.reduceEqDiff, List.map_cons, List.map_nil, Option.map_some, Option.map_none, List.nil_append, ↓reduceIte, vcu0, vcu1, vcu2, vcu3, vcu4, vcu5, vcu6, vcu7, vcu8, vcu9, vcu10, vcu11, vcu12, vcu13, vcu14, vcu15, vcu16, vcu17, vcu18, vcu19, vcu20, vcu21, vcu22, ↓vcd0, ↓vcd1, ↓vcd2, ↓vcd3, pickOps_nil, pickOps_cons, pickO_some, List.getElem?_cons_succ, List.getElem?_cons_zero, f0, f3, f5, f10, f11, f12, f13, f14, h15, lx10, eq2, le10, ls10, hve, Int.toNat_natCast]
            refine tree_one rfl ?_
            refine r_setB (g := g12) (i := 0 + q k / 2) (v := end' H q (q k / 2)) (by simp -implicitDefEqProofs (disch := omega) only [List.any_cons, List.any_nil, Nat.reduceEqDiff, List.map_cons, List.map_nil, Option.map_some, Option.map_none, List.nil_append, ↓reduceIte, vcu0, vcu1, vcu2, vcu3, vcu4, vcu5, vcu6, vcu7, vcu8, vcu9, vcu10, vcu11, vcu12, vcu13, vcu14, vcu15, vcu16, vcu17, vcu18, vcu19, vcu20, vcu21, vcu22, ↓vcd0, ↓vcd1, ↓vcd2, ↓vcd3]) (by simp -implicitDefEqProofs (disch := omega) only [List.any_cons, List.any_nil, Nat.reduceEqDiff, List.map_cons, List.map_nil, Option.map_some, Option.map_none, List.nil_append, ↓reduceIte, vcu0, vcu1, vcu2, vcu3, vcu4, vcu5, vcu6, vcu7, vcu8, vcu9, vcu10, vcu11, vcu12, vcu13, vcu14, vcu15, vcu16, vcu17, vcu18, vcu19, vcu20, vcu21, vcu22, ↓vcd0, ↓vcd1, ↓vcd2, ↓vcd3]) co4 y12 (by rw [tabB_length]; omega) fun τ11 k11 v11 => ?_
            rw [Nat.zero_add, est (rfl)] at v11
            simp -implicitDefEqProofs (disch := omega) only [List.any_cons, List.any_nil, Nat.reduceEqDiff, List.map_cons, List.map_nil, Option.map_some, Option.map_none, List.nil_append, ↓reduceIte, vcu0, vcu1, vcu2, vcu3, vcu4, vcu5, vcu6, vcu7, vcu8, vcu9, vcu10, vcu11, vcu12, vcu13, vcu14, vcu15, vcu16, vcu17, vcu18, vcu19, vcu20, vcu21, vcu22, ↓vcd0, ↓vcd1, ↓vcd2, ↓vcd3]
            refine ⟨keep_of rfl (fun p hp => by simp only [List.mem_singleton] at hp; subst hp; exact .inl (by kernel_rfl)), tree_stop ?_⟩
            simp -implicitDefEqProofs (disch := omega) only [List.any_cons, List.any_nil, Nat.reduceEqDiff, List.map_cons, List.map_nil, Option.map_some, Option.map_none, List.nil_append, ↓reduceIte, vcu0, vcu1, vcu2, vcu3, vcu4, vcu5, vcu6, vcu7, vcu8, vcu9, vcu10, vcu11, vcu12, vcu13, vcu14, vcu15, vcu16, vcu17, vcu18, vcu19, vcu20, vcu21, vcu22, ↓vcd0, ↓vcd1, ↓vcd2, ↓vcd3, f0, f3, f5, f10, f11, f12, f13, f14, h15]
            exact ⟨⟨g0.symm, g3.symm, g5.symm, trivial, trivial, trivial, trivial, trivial, trivial⟩, m4 - 1, by omega, k + 1, by omega, by simp, k11.sub hs10 nσ12, k11.at y5 d2, k11.at v10 d12, v11, k11.at y13 d23.symm, k11.at y14 d24.symm⟩
        | false =>
          rw [hcb] at lb9 bor
          simp -implicitDefEqProofs (disch := omega) only [List.any_cons, List.any_nil, Nat.reduceEqDiff, List.map_cons, List.map_nil, Option.map_some, Option.map_none, List.nil_append, ↓reduceIte, vcu0, vcu1, vcu2, vcu3, vcu4, vcu5, vcu6, vcu7, vcu8, vcu9, vcu10, vcu11, vcu12, vcu13, vcu14, vcu15, vcu16, vcu17, vcu18, vcu19, vcu20, vcu21, vcu22, ↓vcd0, ↓vcd1, ↓vcd2, ↓vcd3, f0, f3, f5, f10, f11, f12, f13, f14, h15, ek, lb9, ls9, hvb, Int.toNat_natCast]
          refine r_setB (g := g11) (i := 0 + k / 2) (v := bgn H q (k / 2)) (by simp -implicitDefEqProofs (disch := omega) only [List.any_cons, List.any_nil, Nat.reduceEqDiff, List.map_cons, List.map_nil, Option.map_some, Option.map_none, List.nil_append, ↓reduceIte, vcu0, vcu1, vcu2, vcu3, vcu4, vcu5, vcu6, vcu7, vcu8, vcu9, vcu10, vcu11, vcu12, vcu13, vcu14, vcu15, vcu16, vcu17, vcu18, vcu19, vcu20, vcu21, vcu22, ↓vcd0, ↓vcd1, ↓vcd2, ↓vcd3]) (by simp -implicitDefEqProofs (disch := omega) only [List.any_cons, List.any_nil, Nat.reduceEqDiff, List.map_cons, List.map_nil, Option.map_some, Option.map_none, List.nil_append, ↓reduceIte, vcu0, vcu1, vcu2, vcu3, vcu4, vcu5, vcu6, vcu7, vcu8, vcu9, vcu10, vcu11, vcu12, vcu13, vcu14, vcu15, vcu16, vcu17, vcu18, vcu19, vcu20, vcu21, vcu22, ↓vcd0, ↓vcd1, ↓vcd2, ↓vcd3]) co4 x11 (by rw [tabB_length]; omega) fun τ10 k10 v10 => ?_
          rw [Nat.zero_add, bst (rfl)] at v10
          have hs10 := k10.sub hs9 nσ11
          have y5 := k10.at x5 d1
          have y12 := k10.at x12 d12.symm
          have y13 := k10.at v13' d13.symm
          have y14 := k10.at v14' d14.symm
          have ls10 := intsAt_own y5 k (by rw [tabZ_length]; exact hlt)
          rw [tabZ_getD hlt, hb, e1] at ls10
          have le10 := own_atB y12 (i := q k / 2) (by rw [tabB_length]; exact hq2)
          rw [tabB_getD hq2] at le10
          have lx10 := hx τ10 hs10 k hlt
          cases hce : endK H q k (q k / 2) with
          | true =>
            rw [hce] at le10 eor
            refine region_tree mixed (quiets [0, 1, 2, 3, 4, 5, 6, 7, 8, 9, 10, 11, 12, 13, 14, 15, 16, 17, 18, 19, 20, 21, 22, 23, 24, 25, 26] (.one 27 .stop)) [([0, 1, 2, 3, 4, 5, 6, 7, 8, 9, 10, 11, 12, 13, 14, 15, 16, 17, 18, 19, 20, 21, 22, 23, 24, 25, 26], Sub τ10)] (by kernel_rfl) (by kernel_rfl) (fun p hp => by simp only [List.mem_singleton] at hp; subst hp; exact Sub.refl _) ?_
            refine tree_quiets τ10 _ _ _ sf1 (by kernel_rfl) (by kernel_rfl) ?_
            simp -implicitDefEqProofs (disch := omega) only [List.any_cons, List.any_nil, Nat.reduceEqDiff, List.map_cons, List.map_nil, Option.map_some, Option.map_none, List.nil_append, ↓reduceIte, vcu0, vcu1, vcu2, vcu3, vcu4, vcu5, vcu6, vcu7, vcu8, vcu9, vcu10, vcu11, vcu12, vcu13, vcu14, vcu15, vcu16, vcu17, vcu18, vcu19, vcu20, vcu21, vcu22, ↓vcd0, ↓vcd1, ↓vcd2, ↓vcd3, pickOps_nil, pickOps_cons, pickO_some, List.getElem?_cons_succ, List.getElem?_cons_zero, f0, f3, f5, f10, f11, f12, f13, f14, h15, lx10, eq2, le10, ls10, hve, Int.toNat_natCast]
            refine tree_one rfl ?_
            refine r_setB (g := g12) (i := 0 + q k / 2) (v := true) (by simp -implicitDefEqProofs (disch := omega) only [List.any_cons, List.any_nil, Nat.reduceEqDiff, List.map_cons, List.map_nil, Option.map_some, Option.map_none, List.nil_append, ↓reduceIte, vcu0, vcu1, vcu2, vcu3, vcu4, vcu5, vcu6, vcu7, vcu8, vcu9, vcu10, vcu11, vcu12, vcu13, vcu14, vcu15, vcu16, vcu17, vcu18, vcu19, vcu20, vcu21, vcu22, ↓vcd0, ↓vcd1, ↓vcd2, ↓vcd3]) (by simp -implicitDefEqProofs (disch := omega) only [List.any_cons, List.any_nil, Nat.reduceEqDiff, List.map_cons, List.map_nil, Option.map_some, Option.map_none, List.nil_append, ↓reduceIte, vcu0, vcu1, vcu2, vcu3, vcu4, vcu5, vcu6, vcu7, vcu8, vcu9, vcu10, vcu11, vcu12, vcu13, vcu14, vcu15, vcu16, vcu17, vcu18, vcu19, vcu20, vcu21, vcu22, ↓vcd0, ↓vcd1, ↓vcd2, ↓vcd3]) co4 y12 (by rw [tabB_length]; omega) fun τ11 k11 v11 => ?_
            rw [Nat.zero_add, est (by rw [← eor]; rfl)] at v11
            simp -implicitDefEqProofs (disch := omega) only [List.any_cons, List.any_nil, Nat.reduceEqDiff, List.map_cons, List.map_nil, Option.map_some, Option.map_none, List.nil_append, ↓reduceIte, vcu0, vcu1, vcu2, vcu3, vcu4, vcu5, vcu6, vcu7, vcu8, vcu9, vcu10, vcu11, vcu12, vcu13, vcu14, vcu15, vcu16, vcu17, vcu18, vcu19, vcu20, vcu21, vcu22, ↓vcd0, ↓vcd1, ↓vcd2, ↓vcd3]
            refine ⟨keep_of rfl (fun p hp => by simp only [List.mem_singleton] at hp; subst hp; exact .inl (by kernel_rfl)), tree_stop ?_⟩
            simp -implicitDefEqProofs (disch := omega) only [List.any_cons, List.any_nil, Nat.reduceEqDiff, List.map_cons, List.map_nil, Option.map_some, Option.map_none, List.nil_append, ↓reduceIte, vcu0, vcu1, vcu2, vcu3, vcu4, vcu5, vcu6, vcu7, vcu8, vcu9, vcu10, vcu11, vcu12, vcu13, vcu14, vcu15, vcu16, vcu17, vcu18, vcu19, vcu20, vcu21, vcu22, ↓vcd0, ↓vcd1, ↓vcd2, ↓vcd3, f0, f3, f5, f10, f11, f12, f13, f14, h15]
            exact ⟨⟨g0.symm, g3.symm, g5.symm, trivial, trivial, trivial, trivial, trivial, trivial⟩, m4 - 1, by omega, k + 1, by omega, by simp, k11.sub hs10 nσ12, k11.at y5 d2, k11.at v10 d12, v11, k11.at y13 d23.symm, k11.at y14 d24.symm⟩
          | false =>
            rw [hce] at le10 eor
            refine region_tree mixed (quiets [0, 1, 2, 3, 4, 5, 6, 7, 8, 9, 10, 11, 12, 13, 14, 15, 16, 17, 18, 19, 20, 21, 22, 23, 24, 25, 26] (.one 27 .stop)) [([0, 1, 2, 3, 4, 5, 6, 7, 8, 9, 10, 11, 12, 13, 14, 15, 16, 17, 18, 19, 20, 21, 22, 23, 24, 25, 26], Sub τ10)] (by kernel_rfl) (by kernel_rfl) (fun p hp => by simp only [List.mem_singleton] at hp; subst hp; exact Sub.refl _) ?_
            refine tree_quiets τ10 _ _ _ sf1 (by kernel_rfl) (by kernel_rfl) ?_
            simp -implicitDefEqProofs (disch := omega) only [List.any_cons, List.any_nil, Nat.reduceEqDiff, List.map_cons, List.map_nil, Option.map_some, Option.map_none, List.nil_append, ↓reduceIte, vcu0, vcu1, vcu2, vcu3, vcu4, vcu5, vcu6, vcu7, vcu8, vcu9, vcu10, vcu11, vcu12, vcu13, vcu14, vcu15, vcu16, vcu17, vcu18, vcu19, vcu20, vcu21, vcu22, ↓vcd0, ↓vcd1, ↓vcd2, ↓vcd3, pickOps_nil, pickOps_cons, pickO_some, List.getElem?_cons_succ, List.getElem?_cons_zero, f0, f3, f5, f10, f11, f12, f13, f14, h15, lx10, eq2, le10, ls10, hve, Int.toNat_natCast]
            refine tree_one rfl ?_
            refine r_setB (g := g12) (i := 0 + q k / 2) (v := end' H q (q k / 2)) (by simp -implicitDefEqProofs (disch := omega) only [List.any_cons, List.any_nil, Nat.reduceEqDiff, List.map_cons, List.map_nil, Option.map_some, Option.map_none, List.nil_append, ↓reduceIte, vcu0, vcu1, vcu2, vcu3, vcu4, vcu5, vcu6, vcu7, vcu8, vcu9, vcu10, vcu11, vcu12, vcu13, vcu14, vcu15, vcu16, vcu17, vcu18, vcu19, vcu20, vcu21, vcu22, ↓vcd0, ↓vcd1, ↓vcd2, ↓vcd3]) (by simp -implicitDefEqProofs (disch := omega) only [List.any_cons, List.any_nil, Nat.reduceEqDiff, List.map_cons, List.map_nil, Option.map_some, Option.map_none, List.nil_append, ↓reduceIte, vcu0, vcu1, vcu2, vcu3, vcu4, vcu5, vcu6, vcu7, vcu8, vcu9, vcu10, vcu11, vcu12, vcu13, vcu14, vcu15, vcu16, vcu17, vcu18, vcu19, vcu20, vcu21, vcu22, ↓vcd0, ↓vcd1, ↓vcd2, ↓vcd3]) co4 y12 (by rw [tabB_length]; omega) fun τ11 k11 v11 => ?_
            rw [Nat.zero_add, est (rfl)] at v11
            simp -implicitDefEqProofs (disch := omega) only [List.any_cons, List.any_nil, Nat.reduceEqDiff, List.map_cons, List.map_nil, Option.map_some, Option.map_none, List.nil_append, ↓reduceIte, vcu0, vcu1, vcu2, vcu3, vcu4, vcu5, vcu6, vcu7, vcu8, vcu9, vcu10, vcu11, vcu12, vcu13, vcu14, vcu15, vcu16, vcu17, vcu18, vcu19, vcu20, vcu21, vcu22, ↓vcd0, ↓vcd1, ↓vcd2, ↓vcd3]
            refine ⟨keep_of rfl (fun p hp => by simp only [List.mem_singleton] at hp; subst hp; exact .inl (by kernel_rfl)), tree_stop ?_⟩
            simp -implicitDefEqProofs (disch := omega) only [List.any_cons, List.any_nil, Nat.reduceEqDiff, List.map_cons, List.map_nil, Option.map_some, Option.map_none, List.nil_append, ↓reduceIte, vcu0, vcu1, vcu2, vcu3, vcu4, vcu5, vcu6, vcu7, vcu8, vcu9, vcu10, vcu11, vcu12, vcu13, vcu14, vcu15, vcu16, vcu17, vcu18, vcu19, vcu20, vcu21, vcu22, ↓vcd0, ↓vcd1, ↓vcd2, ↓vcd3, f0, f3, f5, f10, f11, f12, f13, f14, h15]
            exact ⟨⟨g0.symm, g3.symm, g5.symm, trivial, trivial, trivial, trivial, trivial, trivial⟩, m4 - 1, by omega, k + 1, by omega, by simp, k11.sub hs10 nσ12, k11.at y5 d2, k11.at v10 d12, v11, k11.at y13 d23.symm, k11.at y14 d24.symm⟩
      | false =>
        rw [hb] at ls hbg hen
        have e1 : (if (false : Bool) = true then (1 : Int) else 0) = 0 := rfl
        rw [e1] at ls
        have hvb : decide ((0 : Int) ≠ (k : Int) % 2) = bgn H q (k / 2) := by
          rw [← hbg]
          by_cases e : k % 2 = 1
          · have : (k : Int) % 2 = 1 := by omega
            simp [e, this]
          · have : (k : Int) % 2 = 0 := by omega
            simp [e, this]
        have hve : decide ((0 : Int) ≠ (q k : Int) % 2) = end' H q (q k / 2) := by
          rw [← hen]
          by_cases e : q k % 2 = 1
          · have : (q k : Int) % 2 = 1 := by omega
            simp [e, this]
          · have : (q k : Int) % 2 = 0 := by omega
            simp [e, this]
        simp -implicitDefEqProofs (disch := omega) only [List.any_cons, List.any_nil, Nat.reduceEqDiff, List.map_cons, List.map_nil, Option.map_some, Option.map_none, List.nil_append, ↓reduceIte, vcu0, vcu1, vcu2, vcu3, vcu4, vcu5, vcu6, vcu7, vcu8, vcu9, vcu10, vcu11, vcu12, vcu13, vcu14, vcu15, vcu16, vcu17, vcu18, vcu19, vcu20, vcu21, vcu22, ↓vcd0, ↓vcd1, ↓vcd2, ↓vcd3, f0, f3, f5, f10, f11, f12, f13, f14, h15, ek, lx, ls, eq2, Int.toNat_natCast]
        refine r_setI (g := g13) (i := 0 + k / 2) (v := ((q k / 2 : Nat) : Int)) (by simp -implicitDefEqProofs (disch := omega) only [List.any_cons, List.any_nil, Nat.reduceEqDiff, List.map_cons, List.map_nil, Option.map_some, Option.map_none, List.nil_append, ↓reduceIte, vcu0, vcu1, vcu2, vcu3, vcu4, vcu5, vcu6, vcu7, vcu8, vcu9, vcu10, vcu11, vcu12, vcu13, vcu14, vcu15, vcu16, vcu17, vcu18, vcu19, vcu20, vcu21, vcu22, ↓vcd0, ↓vcd1, ↓vcd2, ↓vcd3]) (by simp -implicitDefEqProofs (disch := omega) only [List.any_cons, List.any_nil, Nat.reduceEqDiff, List.map_cons, List.map_nil, Option.map_some, Option.map_none, List.nil_append, ↓reduceIte, vcu0, vcu1, vcu2, vcu3, vcu4, vcu5, vcu6, vcu7, vcu8, vcu9, vcu10, vcu11, vcu12, vcu13, vcu14, vcu15, vcu16, vcu17, vcu18, vcu19, vcu20, vcu21, vcu22, ↓vcd0, ↓vcd1, ↓vcd2, ↓vcd3]) co3 w13 (by rw [tabI_length]; omega) fun τ9 k9 v9 => ?_
        rw [Nat.zero_add, tabI_set, tabI_congr fun j hj => (up_step hq hlt hb j hj).1] at v9
        have v14' := k9.at w14 d34.symm
        rw [tabI_congr fun j hj => (up_step hq hlt hb j hj).2] at v14'
        have v13' := v9
        have hs9 := k9.sub hs8 nσ13
        have x5 := k9.at w5 d3
        have x11 := k9.at w11 d13
        have x12 := k9.at w12 d23
        have ls9 := intsAt_own x5 k (by rw [tabZ_length]; exact hlt)
        rw [tabZ_getD hlt, hb, e1] at ls9
        have lb9 := own_atB x11 (i := k / 2) (by rw [tabB_length]; exact hk2)
        rw [tabB_getD hk2] at lb9
        cases hcb : begK H q k (k / 2) with
        | true =>
          rw [hcb] at lb9 bor
          simp -implicitDefEqProofs (disch := omega) only [List.any_cons, List.any_nil, Nat.reduceEqDiff, List.map_cons, List.map_nil, Option.map_some, Option.map_none, List.nil_append, ↓reduceIte, vcu0, vcu1, vcu2, vcu3, vcu4, vcu5, vcu6, vcu7, vcu8, vcu9, vcu10, vcu11, vcu12, vcu13, vcu14, vcu15, vcu16, vcu17, vcu18, vcu19, vcu20, vcu21, vcu22, ↓vcd0, ↓vcd1, ↓vcd2, ↓vcd3, f0, f3, f5, f10, f11, f12, f13, f14, h15, ek, lb9, ls9, hvb, Int.toNat_natCast]
          refine r_setB (g := g11) (i := 0 + k / 2) (v := true) (by simp -implicitDefEqProofs (disch := omega) only [List.any_cons, List.any_nil, Nat.reduceEqDiff, List.map_cons, List.map_nil, Option.map_some, Option.map_none, List.nil_append, ↓reduceIte, vcu0, vcu1, vcu2, vcu3, vcu4, vcu5, vcu6, vcu7, vcu8, vcu9, vcu10, vcu11, vcu12, vcu13, vcu14, vcu15, vcu16, vcu17, vcu18, vcu19, vcu20, vcu21, vcu22, ↓vcd0, ↓vcd1, ↓vcd2, ↓vcd3]) (by simp -implicitDefEqProofs (disch := omega) only [List.any_cons, List.any_nil, Nat.reduceEqDiff, List.map_cons, List.map_nil, Option.map_some, Option.map_none, List.nil_append, ↓reduceIte, vcu0, vcu1, vcu2, vcu3, vcu4, vcu5, vcu6, vcu7, vcu8, vcu9, vcu10, vcu11, vcu12, vcu13, vcu14, vcu15, vcu16, vcu17, vcu18, vcu19, vcu20, vcu21, vcu22, ↓vcd0, ↓vcd1, ↓vcd2, ↓vcd3]) co4 x11 (by rw [tabB_length]; omega) fun τ10 k10 v10 => ?_
          rw [Nat.zero_add, bst (by rw [← bor]; rfl)] at v10
          have hs10 := k10.sub hs9 nσ11
          have y5 := k10.at x5 d1
          have y12 := k10.at x12 d12.symm
          have y13 := k10.at v13' d13.symm
          have y14 := k10.at v14' d14.symm
          have ls10 := intsAt_own y5 k (by rw [tabZ_length]; exact hlt)
          rw [tabZ_getD hlt, hb, e1] at ls10
          have le10 := own_atB y12 (i := q k / 2) (by rw [tabB_length]; exact hq2)
          rw [tabB_getD hq2] at le10
          have lx10 := hx τ10 hs10 k hlt
          cases hce : endK H q k (q k / 2) with
          | true =>
            rw [hce] at le10 eor
            refine region_tree mixed (quiets [0, 1, 2, 3, 4, 5, 6, 7, 8, 9, 10, 11, 12, 13, 14, 15, 16, 17, 18, 19, 20, 21, 22, 23, 24, 25, 26] (.one 27 .stop)) [([0, 1, 2, 3, 4, 5, 6, 7, 8, 9, 10, 11, 12, 13, 14, 15, 16, 17, 18, 19, 20, 21, 22, 23, 24, 25, 26], Sub τ10)] (by kernel_rfl) (by kernel_rfl) (fun p hp => by simp only [List.mem_singleton] at hp; subst hp; exact Sub.refl _) ?_
            refine tree_quiets τ10 _ _ _ sf1 (by kernel_rfl) (by kernel_rfl) ?_
            simp -implicitDefEqProofs (disch := omega) only [List.any_cons, List.any_nil, Nat.reduceEqDiff, List.map_cons, List.map_nil, Option.map_some, Option.map_none, List.nil_append, ↓reduceIte, vcu0, vcu1, vcu2, vcu3, vcu4, vcu5, vcu6, vcu7, vcu8, vcu9, vcu10, vcu11, vcu12, vcu13, vcu14, vcu15, vcu16, vcu17, vcu18, vcu19, vcu20, vcu21, vcu22, ↓vcd0, ↓vcd1, ↓vcd2, ↓vcd3, pickOps_nil, pickOps_cons, pickO_some, List.getElem?_cons_succ, List.getElem?_cons_zero, f0, f3, f5, f10, f11, f12, f13, f14, h15, lx10, eq2, le10, ls10, hve, Int.toNat_natCast]
            refine tree_one rfl ?_
            refine r_setB (g := g12) (i := 0 + q k / 2) (v := true) (by simp -implicitDefEqProofs (disch := omega) only [List.any_cons, List.any_nil, Nat.reduceEqDiff, List.map_cons, List.map_nil, Option.map_some, Option.map_none, List.nil_append, ↓reduceIte, vcu0, vcu1, vcu2, vcu3, vcu4, vcu5, vcu6, vcu7, vcu8, vcu9, vcu10, vcu11, vcu12, vcu13, vcu14, vcu15, vcu16, vcu17, vcu18, vcu19, vcu20, vcu21, vcu22, ↓vcd0, ↓vcd1, ↓vcd2, ↓vcd3]) (by simp -implicitDefEqProofs (disch := omega) only [List.any_cons, List.any_nil, Nat.reduceEqDiff, List.map_cons, List.map_nil, Option.map_some, Option.map_none, List.nil_append, ↓reduceIte, vcu0, vcu1, vcu2, vcu3, vcu4, vcu5, vcu6, vcu7, vcu8, vcu9, vcu10, vcu11, vcu12, vcu13, vcu14, vcu15, vcu16, vcu17, vcu18, vcu19, vcu20, vcu21, vcu22, ↓vcd0, ↓vcd1, ↓vcd2, ↓vcd3]) co4 y12 (by rw [tabB_length]; omega) fun τ11 k11 v11 => ?_
            rw [Nat.zero_add, est (by rw [← eor]; rfl)] at v11
            simp -implicitDefEqProofs (disch := omega) only [List.any_cons, List.any_nil, Nat.reduceEqDiff, List.map_cons, List.map_nil, Option.map_some, Option.map_none, List.nil_append, ↓reduceIte, vcu0, vcu1, vcu2, vcu3, vcu4, vcu5, vcu6, vcu7, vcu8, vcu9, vcu10, vcu11, vcu12, vcu13, vcu14, vcu15, vcu16, vcu17, vcu18, vcu19, vcu20, vcu21, vcu22, ↓vcd0, ↓vcd1, ↓vcd2, ↓vcd3]
            refine ⟨keep_of rfl (fun p hp => by simp only [List.mem_singleton] at hp; subst hp; exact .inl (by kernel_rfl)), tree_stop ?_⟩
            simp -implicitDefEqProofs (disch := omega) only [List.any_cons, List.any_nil, Nat.reduceEqDiff, List.map_cons, List.map_nil, Option.map_some, Option.map_none, List.nil_append, ↓reduceIte, vcu0, vcu1, vcu2, vcu3, vcu4, vcu5, vcu6, vcu7, vcu8, vcu9, vcu10, vcu11, vcu12, vcu13, vcu14, vcu15, vcu16, vcu17, vcu18, vcu19, vcu20, vcu21, vcu22, ↓vcd0, ↓vcd1, ↓vcd2, ↓vcd3, f0, f3, f5, f10, f11, f12, f13, f14, h15]
            exact ⟨⟨g0.symm, g3.symm, g5.symm, trivial, trivial, trivial, trivial, trivial, trivial⟩, m4 - 1, by omega, k + 1, by omega, by simp, k11.sub hs10 nσ12, k11.at y5 d2, k11.at v10 d12, v11, k11.at y13 d23.symm, k11.at y14 d24.symm⟩
          | false =>
            rw [hce] at le10 eor
            refine region_tree mixed (quiets [0, 1, 2, 3, 4, 5, 6, 7, 8, 9, 10, 11, 12, 13, 14, 15, 16, 17, 18, 19, 20, 21, 22, 23, 24, 25, 26] (.one 27 .stop)) [([0, 1, 2, 3, 4, 5, 6, 7, 8, 9, 10, 11, 12, 13, 14, 15, 16, 17, 18, 19, 20, 21, 22, 23, 24, 25, 26], Sub τ10)] (by kernel_rfl) (by kernel_rfl) (fun p hp => by simp only [List.mem_singleton] at hp; subst hp; exact Sub.refl _) ?_
            refine tree_quiets τ10 _ _ _ sf1 (by kernel_rfl) (by kernel_rfl) ?_
            simp -implicitDefEqProofs (disch := omega) only [List.any_cons, List.any_nil, Nat.reduceEqDiff, List.map_cons, List.map_nil, Option.map_some, Option.map_none, List.nil_append, ↓reduceIte, vcu0, vcu1, vcu2, vcu3, vcu4, vcu5, vcu6, vcu7, vcu8, vcu9, vcu10, vcu11, vcu12, vcu13, vcu14, vcu15, vcu16, vcu17, vcu18, vcu19, vcu20, vcu21, vcu22, ↓vcd0, ↓vcd1, ↓vcd2, ↓vcd3, pickOps_nil, pickOps_cons, pickO_some, List.getElem?_cons_succ, List.getElem?_cons_zero, f0, f3, f5, f10, f11, f12, f13, f14, h15, lx10, eq2, le10, ls10, hve, Int.toNat_natCast]
            refine tree_one rfl ?_
            refine r_setB (g := g12) (i := 0 + q k / 2) (v := end' H q (q k / 2)) (by simp -implicitDefEqProofs (disch := omega) only [List.any_cons, List.any_nil, Nat.reduceEqDiff, List.map_cons, List.map_nil, Option.map_some, Option.map_none, List.nil_append, ↓reduceIte, vcu0, vcu1, vcu2, vcu3, vcu4, vcu5, vcu6, vcu7, vcu8, vcu9, vcu10, vcu11, vcu12, vcu13, vcu14, vcu15, vcu16, vcu17, vcu18, vcu19, vcu20, vcu21, vcu22, ↓vcd0, ↓vcd1, ↓vcd2, ↓vcd3]) (by simp -implicitDefEqProofs (disch := omega) only [List.any_cons, List.any_nil, Nat.reduceEqDiff, List.map_cons, List.map_nil, Option.map_some, Option.map_none, List.nil_append, ↓reduceIte, vcu0, vcu1, vcu2, vcu3, vcu4, vcu5, vcu6, vcu7, vcu8, vcu9, vcu10, vcu11, vcu12, vcu13, vcu14, vcu15, vcu16, vcu17, vcu18, vcu19, vcu20, vcu21, vcu22, ↓vcd0, ↓vcd1, ↓vcd2, ↓vcd3]) co4 y12 (by rw [tabB_length]; omega) fun τ11 k11 v11 => ?_
            rw [Nat.zero_add, est (rfl)] at v11
            simp -implicitDefEqProofs (disch := omega) only [List.any_cons, List.any_nil, Nat.reduceEqDiff, List.map_cons, List.map_nil, Option.map_some, Option.map_none, List.nil_append, ↓reduceIte, vcu0, vcu1, vcu2, vcu3, vcu4, vcu5, vcu6, vcu7, vcu8, vcu9, vcu10, vcu11, vcu12, vcu13, vcu14, vcu15, vcu16, vcu17, vcu18, vcu19, vcu20, vcu21, vcu22, ↓vcd0, ↓vcd1, ↓vcd2, ↓vcd3]
            refine ⟨keep_of rfl (fun p hp => by simp only [List.mem_singleton] at hp; subst hp; exact .inl (by kernel_rfl)), tree_stop ?_⟩
            simp -implicitDefEqProofs (disch := omega) only [List.any_cons, List.any_nil, Nat.reduceEqDiff, List.map_cons, List.map_nil, Option.map_some, Option.map_none, List.nil_append, ↓reduceIte, vcu0, vcu1, vcu2, vcu3, vcu4, vcu5, vcu6, vcu7, vcu8, vcu9, vcu10, vcu11, vcu12, vcu13, vcu14, vcu15, vcu16, vcu17, vcu18, vcu19, vcu20, vcu21, vcu22, ↓vcd0, ↓vcd1, ↓vcd2, ↓vcd3, f0, f3, f5, f10, f11, f12, f13, f14, h15]
            exact ⟨⟨g0.symm, g3.symm, g5.symm, trivial, trivial, trivial, trivial, trivial, trivial⟩, m4 - 1, by omega, k + 1, by omega, by simp, k11.sub hs10 nσ12, k11.at y5 d2, k11.at v10 d12, v11, k11.at y13 d23.symm, k11.at y14 d24.symm⟩
        | false =>
          rw [hcb] at lb9 bor
          simp -implicitDefEqProofs (disch := omega) only [List.any_cons, List.any_nil, Nat.reduceEqDiff, List.map_cons, List.map_nil, Option.map_some, Option.map_none, List.nil_append, ↓reduceIte, vcu0, vcu1, vcu2, vcu3, vcu4, vcu5, vcu6, vcu7, vcu8, vcu9, vcu10, vcu11, vcu12, vcu13, vcu14, vcu15, vcu16, vcu17, vcu18, vcu19, vcu20, vcu21, vcu22, ↓vcd0, ↓vcd1, ↓vcd2, ↓vcd3, f0, f3, f5, f10, f11, f12, f13, f14, h15, ek, lb9, ls9, hvb, Int.toNat_natCast]
          refine r_setB (g := g11) (i := 0 + k / 2) (v := bgn H q (k / 2)) (by simp -implicitDefEqProofs (disch := omega) only [List.any_cons, List.any_nil, Nat.reduceEqDiff, List.map_cons, List.map_nil, Option.map_some, Option.map_none, List.nil_append, ↓reduceIte, vcu0, vcu1, vcu2, vcu3, vcu4, vcu5, vcu6, vcu7, vcu8, vcu9, vcu10, vcu11, vcu12, vcu13, vcu14, vcu15, vcu16, vcu17, vcu18, vcu19, vcu20, vcu21, vcu22, ↓vcd0, ↓vcd1, ↓vcd2, ↓vcd3]) (by simp -implicitDefEqProofs (disch := omega) only [List.any_cons, List.any_nil, Nat.reduceEqDiff, List.map_cons, List.map_nil, Option.map_some, Option.map_none, List.nil_append, ↓reduceIte, vcu0, vcu1, vcu2, vcu3, vcu4, vcu5, vcu6, vcu7, vcu8, vcu9, vcu10, vcu11, vcu12, vcu13, vcu14, vcu15, vcu16, vcu17, vcu18, vcu19, vcu20, vcu21, vcu22, ↓vcd0, ↓vcd1, ↓vcd2, ↓vcd3]) co4 x11 (by rw [tabB_length]; omega) fun τ10 k10 v10 => ?_
          rw [Nat.zero_add, bst (rfl)] at v10
          have hs10 := k10.sub hs9 nσ11
          have y5 := k10.at x5 d1
          have y12 := k10.at x12 d12.symm
          have y13 := k10.at v13' d13.symm
          have y14 := k10.at v14' d14.symm
          have ls10 := intsAt_own y5 k (by rw [tabZ_length]; exact hlt)
          rw [tabZ_getD hlt, hb, e1] at ls10
          have le10 := own_atB y12 (i := q k / 2) (by rw [tabB_length]; exact hq2)
          rw [tabB_getD hq2] at le10
          have lx10 := hx τ10 hs10 k hlt
          cases hce : endK H q k (q k / 2) with
          | true =>
            rw [hce] at le10 eor
            refine region_tree mixed (quiets [0, 1, 2, 3, 4, 5, 6, 7, 8, 9, 10, 11, 12, 13, 14, 15, 16, 17, 18, 19, 20, 21, 22, 23, 24, 25, 26] (.one 27 .stop)) [([0, 1, 2, 3, 4, 5, 6, 7, 8, 9, 10, 11, 12, 13, 14, 15, 16, 17, 18, 19, 20, 21, 22, 23, 24, 25, 26], Sub τ10)] (by kernel_rfl) (by kernel_rfl) (fun p hp => by simp only [List.mem_singleton] at hp; subst hp; exact Sub.refl _) ?_
            refine tree_quiets τ10 _ _ _ sf1 (by kernel_rfl) (by kernel_rfl) ?_
            simp -implicitDefEqProofs (disch := omega) only [List.any_cons, List.any_nil, Nat.reduceEqDiff, List.map_cons, List.map_nil, Option.map_some, Option.map_none, List.nil_append, ↓reduceIte, vcu0, vcu1, vcu2, vcu3, vcu4, vcu5, vcu6, vcu7, vcu8, vcu9, vcu10, vcu11, vcu12, vcu13, vcu14, vcu15, vcu16, vcu17, vcu18, vcu19, vcu20, vcu21, vcu22, ↓vcd0, ↓vcd1, ↓vcd2, ↓vcd3, pickOps_nil, pickOps_cons, pickO_some, List.getElem?_cons_succ, List.getElem?_cons_zero, f0, f3, f5, f10, f11, f12, f13, f14, h15, lx10, eq2, le10, ls10, hve, Int.toNat_natCast]
            refine tree_one rfl ?_
            refine r_setB (g := g12) (i := 0 + q k / 2) (v := true) (by simp -implicitDefEqProofs (disch := omega) only [List.any_cons, List.any_nil, Nat.reduceEqDiff, List.map_cons, List.map_nil, Option.map_some, Option.map_none, List.nil_append, ↓reduceIte, vcu0, vcu1, vcu2, vcu3, vcu4, vcu5, vcu6, vcu7, vcu8, vcu9, vcu10, vcu11, vcu12, vcu13, vcu14, vcu15, vcu16, vcu17, vcu18, vcu19, vcu20, vcu21, vcu22, ↓vcd0, ↓vcd1, ↓vcd2, ↓vcd3]) (by simp -implicitDefEqProofs (disch := omega) only [List.any_cons, List.any_nil, Nat.reduceEqDiff, List.map_cons, List.map_nil, Option.map_some, Option.map_none, List.nil_append, ↓reduceIte, vcu0, vcu1, vcu2, vcu3, vcu4, vcu5, vcu6, vcu7, vcu8, vcu9, vcu10, vcu11, vcu12, vcu13, vcu14, vcu15, vcu16, vcu17, vcu18, vcu19, vcu20, vcu21, vcu22, ↓vcd0, ↓vcd1, ↓vcd2, ↓vcd3]) co4 y12 (by rw [tabB_length]; omega) fun τ11 k11 v11 => ?_
            rw [Nat.zero_add, est (by rw [← eor]; rfl)] at v11
            simp -implicitDefEqProofs (disch := omega) only [List.any_cons, List.any_nil, Nat.reduceEqDiff, List.map_cons, List.map_nil, Option.map_some, Option.map_none, List.nil_append, ↓reduceIte, vcu0, vcu1, vcu2, vcu3, vcu4, vcu5, vcu6, vcu7, vcu8, vcu9, vcu10, vcu11, vcu12, vcu13, vcu14, vcu15, vcu16, vcu17, vcu18, vcu19, vcu20, vcu21, vcu22, ↓vcd0, ↓vcd1, ↓vcd2, ↓vcd3]
            refine ⟨keep_of rfl (fun p hp => by simp only [List.mem_singleton] at hp; subst hp; exact .inl (by kernel_rfl)), tree_stop ?_⟩
            simp -implicitDefEqProofs (disch := omega) only [List.any_cons, List.any_nil, Nat.reduceEqDiff, List.map_cons, List.map_nil, Option.map_some, Option.map_none, List.nil_append, ↓reduceIte, vcu0, vcu1, vcu2, vcu3, vcu4, vcu5, vcu6, vcu7, vcu8, vcu9, vcu10, vcu11, vcu12, vcu13, vcu14, vcu15, vcu16, vcu17, vcu18, vcu19, vcu20, vcu21, vcu22, ↓vcd0, ↓vcd1, ↓vcd2, ↓vcd3, f0, f3, f5, f10, f11, f12, f13, f14, h15]
            exact ⟨⟨g0.symm, g3.symm, g5.symm, trivial, trivial, trivial, trivial, trivial, trivial⟩, m4 - 1, by omega, k + 1, by omega, by simp, k11.sub hs10 nσ12, k11.at y5 d2, k11.at v10 d12, v11, k11.at y13 d23.symm, k11.at y14 d24.symm⟩
          | false =>
            rw [hce] at le10 eor
            refine region_tree mixed (quiets [0, 1, 2, 3, 4, 5, 6, 7, 8, 9, 10, 11, 12, 13, 14, 15, 16, 17, 18, 19, 20, 21, 22, 23, 24, 25, 26] (.one 27 .stop)) [([0, 1, 2, 3, 4, 5, 6, 7, 8, 9, 10, 11, 12, 13, 14, 15, 16, 17, 18, 19, 20, 21, 22, 23, 24, 25, 26], Sub τ10)] (by kernel_rfl) (by kernel_rfl) (fun p hp => by simp only [List.mem_singleton] at hp; subst hp; exact Sub.refl _) ?_
            refine tree_quiets τ10 _ _ _ sf1 (by kernel_rfl) (by kernel_rfl) ?_
            simp -implicitDefEqProofs (disch := omega) only [List.any_cons, List.any_nil, Nat.reduceEqDiff, List.map_cons, List.map_nil, Option.map_some, Option.map_none, List.nil_append, ↓reduceIte, vcu0, vcu1, vcu2, vcu3, vcu4, vcu5, vcu6, vcu7, vcu8, vcu9, vcu10, vcu11, vcu12, vcu13, vcu14, vcu15, vcu16, vcu17, vcu18, vcu19, vcu20, vcu21, vcu22, ↓vcd0, ↓vcd1, ↓vcd2, ↓vcd3, pickOps_nil, pickOps_cons, pickO_some, List.getElem?_cons_succ, List.getElem?_cons_zero, f0, f3, f5, f10, f11, f12, f13, f14, h15, lx10, eq2, le10, ls10, hve, Int.toNat_natCast]
            refine tree_one rfl ?_
            refine r_setB (g := g12) (i := 0 + q k / 2) (v := end' H q (q k / 2)) (by simp -implicitDefEqProofs (disch := omega) only [List.any_cons, List.any_nil, Nat.reduceEqDiff, List.map_cons, List.map_nil, Option.map_some, Option.map_none, List.nil_append, ↓reduceIte, vcu0, vcu1, vcu2, vcu3, vcu4, vcu5, vcu6, vcu7, vcu8, vcu9, vcu10, vcu11, vcu12, vcu13, vcu14, vcu15, vcu16, vcu17, vcu18, vcu19, vcu20, vcu21, vcu22, ↓vcd0, ↓vcd1, ↓vcd2, ↓vcd3]) (by simp -implicitDefEqProofs (disch := omega) only [List.any_cons, List.any_nil, Nat.reduceEqDiff, List.map_cons, List.map_nil, Option.map_some, Option.map_none, List.nil_append, ↓reduceIte, vcu0, vcu1, vcu2, vcu3, vcu4, vcu5, vcu6, vcu7, vcu8, vcu9, vcu10, vcu11, vcu12, vcu13, vcu14, vcu15, vcu16, vcu17, vcu18, vcu19, vcu20, vcu21, vcu22, ↓vcd0, ↓vcd1, ↓vcd2, ↓vcd3]) co4 y12 (by rw [tabB_length]; omega) fun τ11 k11 v11 => ?_
            rw [Nat.zero_add, est (rfl)] at v11
            simp -implicitDefEqProofs (disch := omega) only [List.any_cons, List.any_nil, Nat.reduceEqDiff, List.map_cons, List.map_nil, Option.map_some, Option.map_none, List.nil_append, ↓reduceIte, vcu0, vcu1, vcu2, vcu3, vcu4, vcu5, vcu6, vcu7, vcu8, vcu9, vcu10, vcu11, vcu12, vcu13, vcu14, vcu15, vcu16, vcu17, vcu18, vcu19, vcu20, vcu21, vcu22, ↓vcd0, ↓vcd1, ↓vcd2, ↓vcd3]
            refine ⟨keep_of rfl (fun p hp => by simp only [List.mem_singleton] at hp; subst hp; exact .inl (by kernel_rfl)), tree_stop ?_⟩
            simp -implicitDefEqProofs (disch := omega) only [List.any_cons, List.any_nil, Nat.reduceEqDiff, List.map_cons, List.map_nil, Option.map_some, Option.map_none, List.nil_append, ↓reduceIte, vcu0, vcu1, vcu2, vcu3, vcu4, vcu5, vcu6, vcu7, vcu8, vcu9, vcu10, vcu11, vcu12, vcu13, vcu14, vcu15, vcu16, vcu17, vcu18, vcu19, vcu20, vcu21, vcu22, ↓vcd0, ↓vcd1, ↓vcd2, ↓vcd3, f0, f3, f5, f10, f11, f12, f13, f14, h15]
            exact ⟨⟨g0.symm, g3.symm, g5.symm, trivial, trivial, trivial, trivial, trivial, trivial⟩, m4 - 1, by omega, k + 1, by omega, by simp, k11.sub hs10 nσ12, k11.at y5 d2, k11.at v10 d12, v11, k11.at y13 d23.symm, k11.at y14 d24.symm⟩
    obtain rfl : 2 * H = k := by omega
    rw [tabB_congr fun j hj => begK_end hq hj] at w11
    rw [tabB_congr fun j hj => endK_end hq hj] at w12
    rw [tabI_congr fun j hj => upK_end hq hj] at w13
    rw [tabI_congr fun j hj => lowK_end hq hj] at w14
    have tl1 : (tabB H (bgn H q)).length = H := tabB_length _ _
    have tl2 : (tabB H (end' H q)).length = H := tabB_length _ _
    simp -implicitDefEqProofs (disch := omega) only [List.any_cons, List.any_nil, Nat.reduceEqDiff, List.map_cons, List.map_nil, Option.map_some, Option.map_none, List.nil_append, ↓reduceIte, vcu0, vcu1, vcu2, vcu3, vcu4, vcu5, vcu6, vcu7, vcu8, vcu9, vcu10, vcu11, vcu12, vcu13, vcu14, vcu15, vcu16, vcu17, vcu18, vcu19, vcu20, vcu21, vcu22, ↓vcd0, ↓vcd1, ↓vcd2, ↓vcd3, f0, f3, f5, f10, f11, f12, f13, f14, h15]
    refine (ihu τ8 g13 w13).mono ?_
    rintro va τ9 ⟨s9, wa⟩
    have hs9 := hs8.trans s9
    generalize tabB H (bgn H q) = C at *
    generalize tabB H (end' H q) = E at *
    simp -implicitDefEqProofs (disch := omega) only [List.any_cons, List.any_nil, Nat.reduceEqDiff, List.map_cons, List.map_nil, Option.map_some, Option.map_none, List.nil_append, ↓reduceIte, vcu0, vcu1, vcu2, vcu3, vcu4, vcu5, vcu6, vcu7, vcu8, vcu9, vcu10, vcu11, vcu12, vcu13, vcu14, vcu15, vcu16, vcu17, vcu18, vcu19, vcu20, vcu21, vcu22, ↓vcd0, ↓vcd1, ↓vcd2, ↓vcd3, opK_some]
    have hAv : Bools τ9 va A := wa.bools
    have hApos : 0 < A.length → True := fun _ => trivial
    refine r_pushBV (g := g11) (xs := C) (ys := A) (len := H) el27 (by omega) sl27 (by simp -implicitDefEqProofs (disch := omega) only [List.any_cons, List.any_nil, Nat.reduceEqDiff, List.map_cons, List.map_nil, Option.map_some, Option.map_none, List.nil_append, ↓reduceIte, vcu0, vcu1, vcu2, vcu3, vcu4, vcu5, vcu6, vcu7, vcu8, vcu9, vcu10, vcu11, vcu12, vcu13, vcu14, vcu15, vcu16, vcu17, vcu18, vcu19, vcu20, vcu21, vcu22, ↓vcd0, ↓vcd1, ↓vcd2, ↓vcd3]) (s9 _ _ w11) tl1 (by simp -implicitDefEqProofs (disch := omega) only [List.any_cons, List.any_nil, Nat.reduceEqDiff, List.map_cons, List.map_nil, Option.map_some, Option.map_none, List.nil_append, ↓reduceIte, vcu0, vcu1, vcu2, vcu3, vcu4, vcu5, vcu6, vcu7, vcu8, vcu9, vcu10, vcu11, vcu12, vcu13, vcu14, vcu15, vcu16, vcu17, vcu18, vcu19, vcu20, vcu21, vcu22, ↓vcd0, ↓vcd1, ↓vcd2, ↓vcd3]) hAv (by omega) fun g15 τ10 n15 k10 v15 => ?_
    have hs10 := k10.sub hs9 nσ11
    have nσ15 : σ g15 = none := free_sub hs9 n15
    simp -implicitDefEqProofs (disch := omega) only [List.any_cons, List.any_nil, Nat.reduceEqDiff, List.map_cons, List.map_nil, Option.map_some, Option.map_none, List.nil_append, ↓reduceIte, vcu0, vcu1, vcu2, vcu3, vcu4, vcu5, vcu6, vcu7, vcu8, vcu9, vcu10, vcu11, vcu12, vcu13, vcu14, vcu15, vcu16, vcu17, vcu18, vcu19, vcu20, vcu21, vcu22, ↓vcd0, ↓vcd1, ↓vcd2, ↓vcd3, f14]
    refine (ihl τ10 g14 (k10.at (s9 _ _ w14) d14.symm)).mono ?_
    rintro vb τ11 ⟨s11, wb⟩
    have hs11 := hs10.trans s11
    simp -implicitDefEqProofs (disch := omega) only [List.any_cons, List.any_nil, Nat.reduceEqDiff, List.map_cons, List.map_nil, Option.map_some, Option.map_none, List.nil_append, ↓reduceIte, vcu0, vcu1, vcu2, vcu3, vcu4, vcu5, vcu6, vcu7, vcu8, vcu9, vcu10, vcu11, vcu12, vcu13, vcu14, vcu15, vcu16, vcu17, vcu18, vcu19, vcu20, vcu21, vcu22, ↓vcd0, ↓vcd1, ↓vcd2, ↓vcd3, opK_some]
    refine r_pushBV (g := g15) (xs := C ++ A) (ys := B) (len := H + A.length) el27 (by omega) sl27 (by simp -implicitDefEqProofs (disch := omega) only [List.any_cons, List.any_nil, Nat.reduceEqDiff, List.map_cons, List.map_nil, Option.map_some, Option.map_none, List.nil_append, ↓reduceIte, vcu0, vcu1, vcu2, vcu3, vcu4, vcu5, vcu6, vcu7, vcu8, vcu9, vcu10, vcu11, vcu12, vcu13, vcu14, vcu15, vcu16, vcu17, vcu18, vcu19, vcu20, vcu21, vcu22, ↓vcd0, ↓vcd1, ↓vcd2, ↓vcd3]) (s11 _ _ v15) (by rw [List.length_append, tl1]) (by simp -implicitDefEqProofs (disch := omega) only [List.any_cons, List.any_nil, Nat.reduceEqDiff, List.map_cons, List.map_nil, Option.map_some, Option.map_none, List.nil_append, ↓reduceIte, vcu0, vcu1, vcu2, vcu3, vcu4, vcu5, vcu6, vcu7, vcu8, vcu9, vcu10, vcu11, vcu12, vcu13, vcu14, vcu15, vcu16, vcu17, vcu18, vcu19, vcu20, vcu21, vcu22, ↓vcd0, ↓vcd1, ↓vcd2, ↓vcd3]) wb.bools (by omega) fun g16 τ12 n16 k12 v16 => ?_
    have hs12 := k12.sub hs11 nσ15
    have nσ16 : σ g16 = none := free_sub hs11 n16
    have d25 : g12 ≠ g15 := ne_of' n15 (s9 _ _ w12)
    have v12 := k12.at (s11 _ _ (k10.at (s9 _ _ w12) d12.symm)) d25
    simp -implicitDefEqProofs (disch := omega) only [List.any_cons, List.any_nil, Nat.reduceEqDiff, List.map_cons, List.map_nil, Option.map_some, Option.map_none, List.nil_append, ↓reduceIte, vcu0, vcu1, vcu2, vcu3, vcu4, vcu5, vcu6, vcu7, vcu8, vcu9, vcu10, vcu11, vcu12, vcu13, vcu14, vcu15, vcu16, vcu17, vcu18, vcu19, vcu20, vcu21, vcu22, ↓vcd0, ↓vcd1, ↓vcd2, ↓vcd3, f12]
    refine r_pushBV (v := .slice (some ⟨g12, 0, none⟩) H 1) (g := g16) (xs := C ++ A ++ B) (ys := E) (len := H + A.length + B.length) el27 (by omega) sl27 (by simp -implicitDefEqProofs (disch := omega) only [List.any_cons, List.any_nil, Nat.reduceEqDiff, List.map_cons, List.map_nil, Option.map_some, Option.map_none, List.nil_append, ↓reduceIte, vcu0, vcu1, vcu2, vcu3, vcu4, vcu5, vcu6, vcu7, vcu8, vcu9, vcu10, vcu11, vcu12, vcu13, vcu14, vcu15, vcu16, vcu17, vcu18, vcu19, vcu20, vcu21, vcu22, ↓vcd0, ↓vcd1, ↓vcd2, ↓vcd3]) v16 (by rw [List.length_append, List.length_append, tl1]) (by simp -implicitDefEqProofs (disch := omega) only [List.any_cons, List.any_nil, Nat.reduceEqDiff, List.map_cons, List.map_nil, Option.map_some, Option.map_none, List.nil_append, ↓reduceIte, vcu0, vcu1, vcu2, vcu3, vcu4, vcu5, vcu6, vcu7, vcu8, vcu9, vcu10, vcu11, vcu12, vcu13, vcu14, vcu15, vcu16, vcu17, vcu18, vcu19, vcu20, vcu21, vcu22, ↓vcd0, ↓vcd1, ↓vcd2, ↓vcd3]) (.inr ⟨g12, 0, by rw [tl2], boolsAt_own v12⟩) (by omega) fun g17 τ13 n17 k13 v17 => ?_
    simp -implicitDefEqProofs (disch := omega) only [List.any_cons, List.any_nil, Nat.reduceEqDiff, List.map_cons, List.map_nil, Option.map_some, Option.map_none, List.nil_append, ↓reduceIte, vcu0, vcu1, vcu2, vcu3, vcu4, vcu5, vcu6, vcu7, vcu8, vcu9, vcu10, vcu11, vcu12, vcu13, vcu14, vcu15, vcu16, vcu17, vcu18, vcu19, vcu20, vcu21, vcu22, ↓vcd0, ↓vcd1, ↓vcd2, ↓vcd3]
    refine fin_one Try.results70 ⟨k13.sub hs12 nσ16, .inr ⟨g17, ?_, v17, free_sub hs12 n17⟩⟩
    simp -implicitDefEqProofs (disch := omega) only [List.any_cons, List.any_nil, Nat.reduceEqDiff, List.map_cons, List.map_nil, Option.map_some, Option.map_none, List.nil_append, ↓reduceIte, vcu0, vcu1, vcu2, vcu3, vcu4, vcu5, vcu6, vcu7, vcu8, vcu9, vcu10, vcu11, vcu12, vcu13, vcu14, vcu15, vcu16, vcu17, vcu18, vcu19, vcu20, vcu21, vcu22, ↓vcd0, ↓vcd1, ↓vcd2, ↓vcd3]
    simp only [List.length_append, tl1, tl2]
end Go.Proofs.Ytgieeafdgdkkcaa

/- FnDialAll answers true for every code. -/
import Derived.Test.YtnenopebfobajaaKo
set_option linter.unusedSimpArgs false
set_option linter.unusedVariables false
namespace Go.Proofs.Ytnenopebfobajaa
open Go Go.Abs Go.RowKit Go.Dial
variable {w0 : World}

theorem catP_app (ps : List (List UInt8)) : ∀ (a b : List Nat), catP ps (a ++ b) = catP ps a ++ catP ps b
  | [], b => rfl
  | k :: a, b => by rw [List.cons_append, catP, catP, catP_app ps a b, List.append_assoc]
theorem catP_len {ps : List (List UInt8)} (h : ∀ x ∈ ps, x.length ≤ 4) : ∀ ks : List Nat, (catP ps ks).length ≤ 4 * ks.length
  | [] => by simp [catP]
  | k :: ks => by
    have ih := catP_len h ks
    have h1 : (ps.getD k []).length ≤ 4 := by
      by_cases hk : k < ps.length
      · exact h _ (by simp [List.getD, hk])
      · simp [List.getD, hk]
    rw [catP, List.length_append, List.length_cons]; omega
def rvC (n : Nat) : Nat → List Nat
  | 0 => []
  | m + 1 => rvC n m ++ [n - 1 - m]
theorem rvC_length (n : Nat) : ∀ m, (rvC n m).length = m
  | 0 => rfl
  | m + 1 => by rw [rvC, List.length_append, rvC_length n m]; rfl
theorem rvC_getD (n : Nat) : ∀ m j, j < m → (rvC n m).getD j 0 = n - 1 - j
  | 0, j, h => absurd h (by omega)
  | m + 1, j, h => by
    have hl := rvC_length n m
    by_cases e : j = m
    · subst e; simp [rvC, List.getD, hl]
    · have := rvC_getD n m j (by omega)
      simp only [rvC, List.getD] at this ⊢
      rw [List.getElem?_append_left (by omega)]; exact this
theorem rvC_lt {n : Nat} : ∀ {m}, m ≤ n → ∀ k ∈ rvC n m, k < n
  | 0, _, k, hk => by simp [rvC] at hk
  | m + 1, h, k, hk => by
    rcases List.mem_append.1 hk with hk | hk
    · exact rvC_lt (by omega) k hk
    · rw [List.mem_singleton.1 hk]; omega
theorem getD_mapI (ks : List Nat) {j : Nat} (h : j < ks.length) : (ks.map fun (k : Nat) => (k : Int)).getD j 0 = (ks.getD j 0 : Nat) := by simp [List.getD, h]
theorem take_catP (ps : List (List UInt8)) (ks : List Nat) {j : Nat} (h : j < ks.length) : catP ps (ks.take (j + 1)) = catP ps (ks.take j) ++ ps.getD (ks.getD j 0) [] := by
  rw [List.take_succ_eq_append_getElem h, catP_app]
  simp [catP, List.getD, h]
theorem law10 (σ : AHeap) (v : Value) (bs : List Int) (hv : Ints .u8 σ v bs) (hm : bs.length ≤ maxLen) (hw : ∀ z ∈ bs, (Lit.int .u8 z).wf = true) :
    ACall Try.prog w0 10 [v] σ fun r _ => r = .bool true := by
  unfold maxLen at hm
  refine ACall.ints_arg (pre := []) (by kernel_rfl) hv fun σ1 h o hs hg => ?_
  clear hv hs σ v
  have hb := bytes_of hw
  refine acall_go mixed Try.func10 rfl good10 fun pr => ?_
  by_cases hbig : 1048576 < bs.length
  · simp -implicitDefEqProofs (disch := omega) only [List.any_cons, List.any_nil, Nat.reduceEqDiff, List.map_cons, List.map_nil, Option.map_some, Option.map_none, List.nil_append, ↓reduceIte, vcu, ↓vcd]
    refine fin_one Try.results10 ?_
    simp -implicitDefEqProofs (disch := omega) only [List.any_cons, List.any_nil, Nat.reduceEqDiff, List.map_cons, List.map_nil, Option.map_some, Option.map_none, List.nil_append, ↓reduceIte, vcu, ↓vcd]
  have hl : bs.length ≤ 1048576 := by omega
  simp -implicitDefEqProofs (disch := omega) only [List.any_cons, List.any_nil, Nat.reduceEqDiff, List.map_cons, List.map_nil, Option.map_some, Option.map_none, List.nil_append, ↓reduceIte, vcu, ↓vcd]
  refine (drawDialAll_at σ1 h o bs hg hl hb).mono ?_
  rintro _ τ ⟨v, ps, s, rfl, hv, hl1, hl2, hs30, hs⟩
  clear hg hl hb hs
  have hp4 : ∀ x ∈ ps, x.length ≤ 1048576 := fun x hx => by have := hl2 x hx; omega
  simp -implicitDefEqProofs (disch := omega) only [List.any_cons, List.any_nil, Nat.reduceEqDiff, List.map_cons, List.map_nil, Option.map_some, Option.map_none, List.nil_append, ↓reduceIte, vcu, ↓vcd, opK_some, List.getElem?_toArray, List.getElem?_cons_zero, List.getElem?_cons_succ]
  refine (implDA_calls τ v ps s hv (by omega) hp4 (by omega)).mono ?_
  rintro _ τ1 ⟨v1, rfl, s1, o1⟩
  simp -implicitDefEqProofs (disch := omega) only [List.any_cons, List.any_nil, Nat.reduceEqDiff, List.map_cons, List.map_nil, Option.map_some, Option.map_none, List.nil_append, ↓reduceIte, vcu, ↓vcd, opK_some, List.getElem?_toArray, List.getElem?_cons_zero, List.getElem?_cons_succ]
  refine (dialAll_calls τ1 v ps s (hv.sub s1) (by omega) hp4 (by omega)).mono ?_
  rintro _ τ2 ⟨v2, rfl, s2, o2⟩
  have hv2 := (hv.sub s1).sub s2
  have t1 := o1.ints.sub s2
  have hW : (allV ps s).length ≤ 30 := by
    unfold allV allO
    split
    · cases e : allN ps s.length s with
      | none => simp
      | some l => have := allN_len ps _ _ _ e; simp; omega
    · simp
  simp -implicitDefEqProofs (disch := omega) only [List.any_cons, List.any_nil, Nat.reduceEqDiff, List.map_cons, List.map_nil, Option.map_some, Option.map_none, List.nil_append, ↓reduceIte, vcu, ↓vcd, opK_some, List.getElem?_toArray, List.getElem?_cons_zero, List.getElem?_cons_succ]
  refine (same_calls τ2 v1 v2 _ _ t1 o2.ints (by omega) (by omega)).mono ?_
  rintro _ _ ⟨rfl, rfl⟩
  rename_i τ2
  simp -implicitDefEqProofs (disch := omega) only [List.any_cons, List.any_nil, Nat.reduceEqDiff, List.map_cons, List.map_nil, Option.map_some, Option.map_none, List.nil_append, ↓reduceIte, vcu, ↓vcd, opK_some, eq_self, decide_true, Bool.not_true, beq_self_eq_true]
  refine (planValid_calls τ2 v ps hv2 (by omega) hp4).mono ?_
  rintro _ _ ⟨rfl, rfl⟩
  rename_i τ2
  clear o1 o2 s1 s2 hv
  obtain ⟨ad, z, rfl⟩ := ints_lenV t1
  obtain ⟨ad2, z2, rfl⟩ := texts_lenV hv2
  by_cases hd : PlanOk ps
  case neg =>
    have e : allO ps s = none := by unfold allO; rw [if_neg fun h => hd h.1]
    have eV : (allV ps s).length = 0 := by unfold allV; rw [e]; rfl
    rw [decide_eq_false hd, e]
    simp -implicitDefEqProofs (disch := omega) only [List.any_cons, List.any_nil, Nat.reduceEqDiff, List.map_cons, List.map_nil, Option.map_some, Option.map_none, List.nil_append, ↓reduceIte, vcu, ↓vcd, opK_some, Bool.not_false, Option.isSome_none]
    refine (alive_at _).mono ?_
    rintro r _ ⟨rfl, rfl⟩
    simp -implicitDefEqProofs (disch := omega) only [List.any_cons, List.any_nil, Nat.reduceEqDiff, List.map_cons, List.map_nil, Option.map_some, Option.map_none, List.nil_append, ↓reduceIte, vcu, ↓vcd, opK_some]
    refine fin_one Try.results10 ?_
    simp -implicitDefEqProofs (disch := omega) only [List.any_cons, List.any_nil, Nat.reduceEqDiff, List.map_cons, List.map_nil, Option.map_some, Option.map_none, List.nil_append, ↓reduceIte, vcu, ↓vcd]
  rw [decide_eq_true hd]
  obtain ⟨ks, hks, hklt, hcat⟩ : ∃ ks : List Nat, allV ps s = (ks.map fun (k : Nat) => (k : Int)) ∧ (∀ k ∈ ks, k < ps.length) ∧ ((allO ps s = none ∧ ks = []) ∨ ((allO ps s).isSome = true ∧ catP ps ks = s)) := by
    cases hO : allO ps s with
    | none => exact ⟨[], by unfold allV; rw [hO]; rfl, by simp, .inl ⟨rfl, rfl⟩⟩
    | some l =>
      have h2 := hO
      unfold allO at h2
      split at h2
      · obtain ⟨ks, e1, e2, e3⟩ := allN_some _ _ _ (Nat.le_refl _) h2
        exact ⟨ks, by unfold allV; rw [hO]; exact e1, e2, .inr ⟨rfl, e3⟩⟩
      · cases h2
  have hkl : (allV ps s).length = ks.length := by rw [hks, List.length_map]
  rw [hkl] at hW t1 ⊢
  rw [hks] at t1
  generalize hOB : (allO ps s).isSome = ob at *
  simp -implicitDefEqProofs (disch := omega) only [List.any_cons, List.any_nil, Nat.reduceEqDiff, List.map_cons, List.map_nil, Option.map_some, Option.map_none, List.nil_append, ↓reduceIte, vcu, ↓vcd, opK_some, Bool.not_true]
  -- the plan, the last number first
  refine vc_loop_c mixed (by kernel_rfl) [3, 4, 5, 6] (fun m a σ' => ∃ j : Nat, m + j = ps.length ∧ a 10 = .int .i64 ((ps.length : Int) - 1 - j) ∧ a 9 = .string (tx (catP ps (rvC ps.length j))) ∧ σ' = τ2) ps.length ⟨0, by simp, by show Value.int .i64 ((ps.length : Int) - 1) = Value.int .i64 ((ps.length : Int) - 1 - ((0 : Nat) : Int)); congr 1; omega, rfl, rfl⟩ ?_
  rintro m a σ' hc ⟨j, hj, h10, h9, rfl⟩
  simp -implicitDefEqProofs (disch := omega) only [List.any_cons, List.any_nil, Nat.reduceEqDiff, List.map_cons, List.map_nil, Option.map_some, Option.map_none, List.nil_append, ↓reduceIte, vcu, ↓vcd] at hc
  obtain ⟨h3, h4, h5, h6, -⟩ := hc
  have hcl := catP_len hl2 (rvC ps.length j)
  rw [rvC_length] at hcl
  by_cases hlt : j < ps.length
  · rcases hv2 with ⟨-, rfl⟩ | ⟨g, p, e, hat⟩
    · exact absurd hlt (by simp)
    cases e
    have hx := hat (ps.length - 1 - j) (by omega)
    have ej : ((ps.length : Int) - 1 - j).toNat = ps.length - 1 - j := by omega
    have hxl : (ps.getD (ps.length - 1 - j) []).length ≤ 4 := hl2 _ (by simp [List.getD, show ps.length - 1 - j < ps.length by omega])
    have ha := abin_sadd (P := Try.prog) (t := 9) (xs := catP ps (rvC ps.length j)) (ys := ps.getD (ps.length - 1 - j) []) (by omega)
    have hcat : catP ps (rvC ps.length (j + 1)) = catP ps (rvC ps.length j) ++ ps.getD (ps.length - 1 - j) [] := by rw [rvC, catP_app]; simp [catP]
    simp -implicitDefEqProofs (disch := omega) only [List.any_cons, List.any_nil, Nat.reduceEqDiff, List.map_cons, List.map_nil, Option.map_some, Option.map_none, List.nil_append, ↓reduceIte, vcu, ↓vcd, h3, h4, h5, h6, h9, h10, ej, hx, ha]
    exact ⟨by simp [h3, h4, h5, h6], m - 1, by omega, j + 1, by omega, by congr 1; omega, by rw [hcat], trivial⟩
  obtain rfl : j = ps.length := by omega
  have hAll : allO ps (catP ps (rvC ps.length ps.length)) = some ((rvC ps.length ps.length).map fun (k : Nat) => (k : Int)) := by
    unfold allO
    rw [if_pos ⟨hd, catP_dg hd (rvC_lt (Nat.le_refl _))⟩]
    exact allN_cat hd _ _ (rvC_lt (Nat.le_refl _)) (Nat.le_refl _)
  have hAV : allV ps (catP ps (rvC ps.length ps.length)) = (rvC ps.length ps.length).map fun (k : Nat) => (k : Int) := by unfold allV; rw [hAll]; rfl
  simp -implicitDefEqProofs (disch := omega) only [List.any_cons, List.any_nil, Nat.reduceEqDiff, List.map_cons, List.map_nil, Option.map_some, Option.map_none, List.nil_append, ↓reduceIte, vcu, ↓vcd, h3, h4, h5, h6, h9, h10]
  refine (implDA_calls σ' _ ps _ hv2 (by omega) hp4 (by omega)).mono ?_
  rintro _ τ3 ⟨v3, rfl, s3, o3⟩
  rw [hAll]
  rw [hAV] at o3
  have t3 := o3.ints
  have t1' := t1.sub s3
  have hv3 := hv2.sub s3
  clear o3 hAll hAV hcl h9 h10
  have hrl : ((rvC ps.length ps.length).map fun (k : Nat) => (k : Int)).length = ps.length := by rw [List.length_map, rvC_length]
  have hrg : ∀ j, j < ps.length → ((rvC ps.length ps.length).map fun (k : Nat) => (k : Int)).getD j 0 = (ps.length : Int) - 1 - j := fun j hj => by
    rw [getD_mapI _ (by rw [rvC_length]; exact hj), rvC_getD _ _ _ hj]; omega
  generalize ((rvC ps.length ps.length).map fun (k : Nat) => (k : Int)) = tl at *
  obtain ⟨ad3, z3, rfl⟩ := ints_lenV t3
  rw [hrl] at t3 ⊢
  simp -implicitDefEqProofs (disch := omega) only [List.any_cons, List.any_nil, Nat.reduceEqDiff, List.map_cons, List.map_nil, Option.map_some, Option.map_none, List.nil_append, ↓reduceIte, vcu, ↓vcd, opK_some, List.getElem?_toArray, List.getElem?_cons_zero, List.getElem?_cons_succ, h3, h4, h5, h6, Option.isSome_some, Bool.not_true]
  refine vc_loop_c mixed (by kernel_rfl) [3, 4, 5, 6, 11] (fun m2 a2 σ2 => ∃ j : Nat, m2 + j = ps.length ∧ a2 13 = .int .i64 j ∧ σ2 = τ3) ps.length ⟨0, by simp, rfl, rfl⟩ ?_
  rintro m2 a2 σ2 hc2 ⟨j, hj, h13, rfl⟩
  simp -implicitDefEqProofs (disch := omega) only [List.any_cons, List.any_nil, Nat.reduceEqDiff, List.map_cons, List.map_nil, Option.map_some, Option.map_none, List.nil_append, ↓reduceIte, vcu, ↓vcd, h3, h4, h5, h6] at hc2
  obtain ⟨d3, d4, d5, d6, d11, -⟩ := hc2
  by_cases hlt : j < ps.length
  · rcases t3 with ⟨-, rfl⟩ | ⟨g, p, e, hat⟩
    · simp at hrl; omega
    rw [hrl] at e
    cases e
    have hx := hat j (by omega)
    rw [hrg j hlt] at hx
    have dn : decide ((ps.length : Int) - 1 - (j : Int) ≠ (ps.length : Int) - 1 - (j : Int)) = false := decide_eq_false fun h => h rfl
    simp -implicitDefEqProofs (disch := omega) only [List.any_cons, List.any_nil, Nat.reduceEqDiff, List.map_cons, List.map_nil, Option.map_some, Option.map_none, List.nil_append, ↓reduceIte, vcu, ↓vcd, d3, d4, d5, d6, d11, h13, hx, dn]
    exact ⟨by simp [d3, d4, d5, d6, d11, h3, h4, h5, h6], m2 - 1, by omega, j + 1, by omega, by simp, trivial⟩
  simp -implicitDefEqProofs (disch := omega) only [List.any_cons, List.any_nil, Nat.reduceEqDiff, List.map_cons, List.map_nil, Option.map_some, Option.map_none, List.nil_append, ↓reduceIte, vcu, ↓vcd, d3, d4, d5, d6, d11, h13]
  refine vc_loop_c mixed (by kernel_rfl) [3, 4, 5, 6] (fun m3 a3 σ3 => ∃ j : Nat, m3 + j = ks.length ∧ a3 15 = .int .i64 j ∧ a3 14 = .string (tx (catP ps (ks.take j))) ∧ σ3 = σ2) ks.length ⟨0, by simp, rfl, rfl, rfl⟩ ?_
  rintro m3 a3 σ3 hc3 ⟨i, hi, h15, h14, rfl⟩
  simp -implicitDefEqProofs (disch := omega) only [List.any_cons, List.any_nil, Nat.reduceEqDiff, List.map_cons, List.map_nil, Option.map_some, Option.map_none, List.nil_append, ↓reduceIte, vcu, ↓vcd, d3, d4, d5, d6] at hc3
  obtain ⟨e3, e4, e5, e6, -⟩ := hc3
  have hcl := catP_len hl2 (ks.take i)
  rw [List.length_take] at hcl
  by_cases hli : i < ks.length
  · rcases t1' with ⟨-, hnil⟩ | ⟨g, p, e, hat⟩
    · rw [List.map_eq_nil_iff] at hnil
      rw [hnil] at hli
      simp at hli
    have hki : ks.getD i 0 < ps.length := hklt _ (by simp [List.getD, hli])
    rcases hv3 with ⟨-, rfl⟩ | ⟨g', p', e', hat'⟩
    · simp at hki
    rw [List.length_map] at e
    cases e; cases e'
    have hx := hat i (by rw [List.length_map]; exact hli)
    rw [getD_mapI _ hli] at hx
    have hy := hat' _ hki
    have htk := take_catP ps ks hli
    generalize ks.getD i 0 = kk at *
    have hyl : (ps.getD kk []).length ≤ 4 := hl2 _ (by simp [List.getD, hki])
    have ha := abin_sadd (P := Try.prog) (t := 9) (xs := catP ps (ks.take i)) (ys := ps.getD kk []) (by omega)
    simp -implicitDefEqProofs (disch := omega) only [List.any_cons, List.any_nil, Nat.reduceEqDiff, List.map_cons, List.map_nil, Option.map_some, Option.map_none, List.nil_append, ↓reduceIte, vcu, ↓vcd, e3, e4, e5, e6, h14, h15, hx, Int.toNat_natCast, hy, ha]
    exact ⟨by simp [e3, e4, e5, e6, d3, d4, d5, d6, h3, h4, h5, h6], m3 - 1, by omega, i + 1, by omega, by simp, by rw [htk], trivial⟩
  obtain rfl : i = ks.length := by omega
  rw [List.take_length] at h14
  rcases hcat with ⟨hn, rfl⟩ | ⟨hob, hcs⟩
  · have eb : ob = false := by rw [← hOB, hn]; rfl
    rw [eb] at e6
    have z0 : decide (((([] : List Nat).length : Nat) : Int) = 0) = true := rfl
    simp -implicitDefEqProofs (disch := omega) only [List.any_cons, List.any_nil, Nat.reduceEqDiff, List.map_cons, List.map_nil, Option.map_some, Option.map_none, List.nil_append, ↓reduceIte, vcu, ↓vcd, e3, e4, e5, e6, h14, h15, Bool.not_false, z0]
    refine fin_one Try.results10 ?_
    simp -implicitDefEqProofs (disch := omega) only [List.any_cons, List.any_nil, Nat.reduceEqDiff, List.map_cons, List.map_nil, Option.map_some, Option.map_none, List.nil_append, ↓reduceIte, vcu, ↓vcd]
  · rw [hob] at e6
    rw [hcs] at h14
    simp -implicitDefEqProofs (disch := omega) only [List.any_cons, List.any_nil, Nat.reduceEqDiff, List.map_cons, List.map_nil, Option.map_some, Option.map_none, List.nil_append, ↓reduceIte, vcu, ↓vcd, e3, e4, e5, e6, h14, h15, Bool.not_true, decide_true]
    refine fin_one Try.results10 ?_
    simp -implicitDefEqProofs (disch := omega) only [List.any_cons, List.any_nil, Nat.reduceEqDiff, List.map_cons, List.map_nil, Option.map_some, Option.map_none, List.nil_append, ↓reduceIte, vcu, ↓vcd]

open Go.ChangeShapes Go.WideShapes Go.ChangeAt Go.RowKit

set_option maxRecDepth 100000 in
theorem lifted10 (os : Os) (started : os.Started) (H : Type) (enc : TypeId × Value → H) :
    ReturnsInHanded {} Try.checked os 10 .any (Rows.fnDialAllSpec.pre6 enc Try.prog Try.f10 Rows.fnDialAllRow.domain false) (Rows.fnDialAllSpec.post enc Try.prog Try.f10 false true false false) := by
  refine returnsInHanded_of_change (C := Try.checked) own started (by kernel_rfl) Try.func10
    (ChangeSpec.witness6 (enc := enc) (C := Try.checked) false ⟨#[], #[.slice none 0 0], []⟩ 8 (by kernel_rfl) (by kernel_rfl) (by kernel_rfl) (by kernel_rfl)) ?_
  intro W base args ds gs before hval hW _ _
  have hW' := hW
  obtain ⟨p, q, hA, hV, -, -, -⟩ := hW'
  rw [Try.params10] at hA hval
  obtain ⟨v0, vs0, d0, ds0, p0, q0, hargs, rfl, rfl, h0, r0⟩ := trodAll_cons hA
  obtain ⟨rfl, rfl, rfl⟩ := trodAll_nil r0
  obtain ⟨rfl, rfl⟩ := trodVars_none hV
  obtain rfl : args = #[v0] := by cases args; simp_all
  obtain ⟨β0, σ0, a0, zs0, L0, U0, S0, R0, I0, w0, m0⟩ := start_ints Try.underlying22 Try.underlying5 co5 (Start.start W) (hval 0 22 v0 rfl rfl) h0
  refine ((law10 σ0 a0 zs0 (I0) m0 w0).2 noProt β0 W [v0] S0.rel (.cons R0 (.nil _))).mono fun e W' h => ?_
  obtain ⟨β', r, r', σ', -, rfl, hr, hrel, rfl⟩ := h
  cases hr
  exact ⟨_, rfl, law_post laidOut hW rfl rfl (by rw [Try.params10]; intro t ht; simp only [List.mem_cons, List.not_mem_nil, or_false, or_self] at ht; rcases ht with rfl <;> exact ⟨by kernel_rfl, of_decide_eq_true (by kernel_rfl)⟩) rfl Try.underlying4 hrel.below⟩

theorem facts10 : joinedFacts Try.prog 10 Try.f10 Rows.fnDialAllSpec Rows.fnDialAllRow = true := by
  unfold joinedFacts
  rw [mayE, liftsE, makeE]
  kernel_rfl

theorem proved10 : Rows.FnDialAllSaid :=
  OpenClaim.holds_of_wide 10 Try.f10 rfl rfl rfl rfl rfl rfl rfl ⟨rfl, rfl, rfl, rfl, rfl⟩ rfl rfl rfl rfl rfl (by kernel_rfl) Try.func10 facts10 (of_decide_eq_true (by kernel_rfl))
    (by unfold Func.isWrapper; first | (rw [if_pos (by decide +kernel)]; kernel_rfl) | (rw [if_neg (by decide +kernel)]; exact ⟨rfl, rfl⟩))
    (fun os started H enc _ => lifted10 os started H enc)


end Go.Proofs.Ytnenopebfobajaa

/- FnEnough answers true for every code. -/
import Derived.Test.YtphacjkogompoaaDk
set_option linter.unusedSimpArgs false
set_option linter.unusedVariables false
namespace Go.Proofs.Ytphacjkogompoaa
open Go Go.Abs Go.RowKit Go.Clos
variable {w0 : World}

theorem law9 (σ : AHeap) (v : Value) (bs : List Int) (hv : Ints .u8 σ v bs) (hm : bs.length ≤ maxLen) (hw : ∀ z ∈ bs, (Lit.int .u8 z).wf = true) :
    ACall Try.prog w0 9 [v] σ fun r _ => r = .bool true := by
  unfold maxLen at hm
  refine ACall.ints_arg (pre := []) (by kernel_rfl) hv fun σ1 h o hs hg => ?_
  clear hv hs σ v
  have hb := bytes_of hw
  refine acall_go mixed Try.func9 rfl good9 fun pr => ?_
  by_cases hbig : 1048576 < bs.length
  · simp -implicitDefEqProofs (disch := omega) only [List.any_cons, List.any_nil, Nat.reduceEqDiff, List.map_cons, List.map_nil, Option.map_some, Option.map_none, List.nil_append, ↓reduceIte, vcu, ↓vcd]
    refine fin_one Try.results9 ?_
    simp -implicitDefEqProofs (disch := omega) only [List.any_cons, List.any_nil, Nat.reduceEqDiff, List.map_cons, List.map_nil, Option.map_some, Option.map_none, List.nil_append, ↓reduceIte, vcu, ↓vcd]
  have hl : bs.length ≤ 1048576 := by omega
  simp -implicitDefEqProofs (disch := omega) only [List.any_cons, List.any_nil, Nat.reduceEqDiff, List.map_cons, List.map_nil, Option.map_some, Option.map_none, List.nil_append, ↓reduceIte, vcu, ↓vcd]
  refine (drawEn_at σ1 h o bs hg hl hb).mono ?_
  rintro _ τ ⟨s, rfl, hD, hs⟩
  simp -implicitDefEqProofs (disch := omega) only [List.any_cons, List.any_nil, Nat.reduceEqDiff, List.map_cons, List.map_nil, Option.map_some, Option.map_none, List.nil_append, ↓reduceIte, vcu, ↓vcd, opK_some]
  refine r_local (cs := #[.int .i64 s.O, .int .i64 s.E, .int .i64 s.M]) ze24 (by decide) (by simp -implicitDefEqProofs (disch := omega) only [List.any_cons, List.any_nil, Nat.reduceEqDiff, List.map_cons, List.map_nil, Option.map_some, Option.map_none, List.nil_append, ↓reduceIte, vcu, ↓vcd]) (by rw [co24]; rfl) rfl rfl (Nat.zero_lt_succ _) fun c3 τ2 n3 s3 e3 => ?_
  replace e3 : τ2 c3 = some ⟨[.int .i64 s.O, .int .i64 s.E, .int .i64 s.M], false⟩ := e3
  have l3 : lds τ2 c3 0 3 = some [.int .i64 s.O, .int .i64 s.E, .int .i64 s.M] := lds_three (ld_of e3 rfl) (ld_of e3 rfl) (ld_of e3 rfl)
  have lO : ld τ2 c3 (0 + 0) = some (.int .i64 s.O) := ld_of e3 rfl
  have lE : ld τ2 c3 (0 + 1) = some (.int .i64 s.E) := ld_of e3 rfl
  have hL := hD.lines
  clear hs
  simp -implicitDefEqProofs (disch := omega) only [List.any_cons, List.any_nil, Nat.reduceEqDiff, List.map_cons, List.map_nil, Option.map_some, Option.map_none, List.nil_append, ↓reduceIte, vcu, ↓vcd, l3, co24]
  refine (implEnough_at τ2 s.O s.E s.M).mono ?_
  rintro r τ3 ⟨rfl, q3⟩
  subst q3
  simp -implicitDefEqProofs (disch := omega) only [List.any_cons, List.any_nil, Nat.reduceEqDiff, List.map_cons, List.map_nil, Option.map_some, Option.map_none, List.nil_append, ↓reduceIte, vcu, ↓vcd, opK_some, l3, co24]
  refine (specEnough_at τ3 s.O s.E s.M).mono ?_
  rintro r τ4 ⟨rfl, q4⟩
  subst q4
  simp -implicitDefEqProofs (disch := omega) only [List.any_cons, List.any_nil, Nat.reduceEqDiff, List.map_cons, List.map_nil, Option.map_some, Option.map_none, List.nil_append, ↓reduceIte, vcu, ↓vcd, opK_some, Bool.not_true, beq_self_eq_true]
  refine r_lit el37 (out := #[]) (by kernel_rfl) (by kernel_rfl) fun g0 τ5 n5 s5 e5 => ?_
  have lO5 := ld_sub s5 lO
  have lE5 := ld_sub s5 lE
  obtain ⟨n, hn⟩ : ∃ n : Nat, s.O * s.E = n := ⟨(s.O * s.E).toNat, by omega⟩
  have hn20 : n ≤ 20 := by omega
  have hrt := rt_turned hn.symm
  clear lO lE l3
  simp -implicitDefEqProofs (disch := omega) only [List.any_cons, List.any_nil, Nat.reduceEqDiff, List.map_cons, List.map_nil, Option.map_some, Option.map_none, List.nil_append, ↓reduceIte, vcu, ↓vcd, lO5, lE5, hn]
  refine vc_loop_c mixed (by kernel_rfl) [3, 4] (fun m a τ' => ∃ (j g : Nat), m + j = n ∧ a 6 = .int .i64 ((n : Int) - 1 - j) ∧ a 5 = .slice (some ⟨g, 0, none⟩) j 1 ∧ Sub τ4 τ' ∧ τ' g = some ⟨ints .i64 ((turned n).take j), false⟩ ∧ τ4 g = none) n ⟨0, g0, by simp, by simp -implicitDefEqProofs (disch := omega) only [List.any_cons, List.any_nil, Nat.reduceEqDiff, List.map_cons, List.map_nil, Option.map_some, Option.map_none, List.nil_append, ↓reduceIte, vcu, ↓vcd, Int.natCast_zero, Int.sub_zero], rfl, s5, e5, n5⟩ ?_
  clear e5 n5 s5 lO5 lE5
  rintro m a τ hc ⟨j, g, hj, h6, h5, hs, hg', ng⟩
  simp -implicitDefEqProofs (disch := omega) only [List.any_cons, List.any_nil, Nat.reduceEqDiff, List.map_cons, List.map_nil, Option.map_some, Option.map_none, List.nil_append, ↓reduceIte, vcu, ↓vcd] at hc
  obtain ⟨h3, h4, -⟩ := hc
  have hlj : ((turned n).take j).length = j := by rw [List.length_take, turned_length]; omega
  by_cases hlt : j < n
  · have ht := turned_take hlt
    have hge : (0 : Int) ≤ (n : Int) - 1 - j := by omega
    have hsub : (n : Int) - 1 - j - 1 = (n : Int) - 1 - ((j + 1 : Nat) : Int) := by omega
    have hr1 : -9223372036854775808 ≤ (n : Int) - 1 - j - 1 ∧ (n : Int) - 1 - j - 1 ≤ 9223372036854775807 := by omega
    generalize hX : (n : Int) - 1 - j = X at *
    simp -implicitDefEqProofs (disch := omega) only [List.any_cons, List.any_nil, Nat.reduceEqDiff, List.map_cons, List.map_nil, Option.map_some, Option.map_none, List.nil_append, ↓reduceIte, vcu, ↓vcd, h3, h4, h5, h6]
    refine r_lit el37 (out := #[.int .i64 X]) (by first | kernel_rfl | (simp -implicitDefEqProofs (disch := omega) only [List.any_cons, List.any_nil, Nat.reduceEqDiff, List.map_cons, List.map_nil, Option.map_some, Option.map_none, List.nil_append, ↓reduceIte, vcu, ↓vcd, h6]; kernel_rfl)) (by rfl) fun e3' τ6 n6 s6 v6 => ?_
    refine r_pushI (g := g) (e := e3') (o := 0) (k := .i64) (xs := (turned n).take j) (ys := [X]) (m := 1) (len := j) el37 (by omega) sl37 (by simp -implicitDefEqProofs (disch := omega) only [List.any_cons, List.any_nil, Nat.reduceEqDiff, List.map_cons, List.map_nil, Option.map_some, Option.map_none, List.nil_append, ↓reduceIte, vcu, ↓vcd, h5]) (s6 _ _ hg') hlj (by simp -implicitDefEqProofs (disch := omega) only [List.any_cons, List.any_nil, Nat.reduceEqDiff, List.map_cons, List.map_nil, Option.map_some, Option.map_none, List.nil_append, ↓reduceIte, vcu, ↓vcd]) (intsAt_own v6) rfl (by omega) fun g7 τ7 n7 k7 v7 => ?_
    rw [← ht] at v7
    simp -implicitDefEqProofs (disch := omega) only [List.any_cons, List.any_nil, Nat.reduceEqDiff, List.map_cons, List.map_nil, Option.map_some, Option.map_none, List.nil_append, ↓reduceIte, vcu, ↓vcd, h3, h4, h5, h6, hsub]
    exact ⟨⟨trivial, trivial, trivial⟩, m - 1, by omega, j + 1, g7, by omega, rfl, rfl, k7.sub (hs.trans s6) ng, v7, free_sub (hs.trans s6) n7⟩
  obtain rfl : j = n := by omega
  rw [List.take_of_length_le (by rw [turned_length]; omega)] at hg'
  have f3 := hs _ _ e3
  have l3 : lds τ c3 0 3 = some [.int .i64 s.O, .int .i64 s.E, .int .i64 s.M] := lds_three (ld_of f3 rfl) (ld_of f3 rfl) (ld_of f3 rfl)
  have hrn := implRoute_at (w0 := w0) τ s g 0 (turned j) (intsAt_own hg') (by rw [turned_length]; omega)
  rw [turned_length] at hrn
  have hge : ¬ (0 : Int) ≤ (j : Int) - 1 - j := by omega
  simp -implicitDefEqProofs (disch := omega) only [List.any_cons, List.any_nil, Nat.reduceEqDiff, List.map_cons, List.map_nil, Option.map_some, Option.map_none, List.nil_append, ↓reduceIte, vcu, ↓vcd, h3, h4, h5, h6, l3, co24]
  refine hrn.mono ?_
  clear hrn
  rintro _ τ6 ⟨v, rfl, s6, w6⟩
  have hd : decide (rtOk s (turned j)) = decide (Enough ⟨s.O, s.E, s.M⟩) := decide_eq_decide.2 hrt
  rw [hd]
  by_cases hE : Enough s
  case neg =>
    have dE : decide (Enough ⟨s.O, s.E, s.M⟩) = false := decide_eq_false hE
    rw [dE] at h4 ⊢
    simp -implicitDefEqProofs (disch := omega) only [List.any_cons, List.any_nil, Nat.reduceEqDiff, List.map_cons, List.map_nil, Option.map_some, Option.map_none, List.nil_append, ↓reduceIte, vcu, ↓vcd, opK_some, List.getElem?_toArray, List.getElem?_cons_zero, List.getElem?_cons_succ, h4, Bool.not_false, beq_self_eq_true]
    refine (alive_at _).mono ?_
    rintro r _ ⟨rfl, rfl⟩
    simp -implicitDefEqProofs (disch := omega) only [List.any_cons, List.any_nil, Nat.reduceEqDiff, List.map_cons, List.map_nil, Option.map_some, Option.map_none, List.nil_append, ↓reduceIte, vcu, ↓vcd, opK_some]
    refine fin_one Try.results9 ?_
    simp -implicitDefEqProofs (disch := omega) only [List.any_cons, List.any_nil, Nat.reduceEqDiff, List.map_cons, List.map_nil, Option.map_some, Option.map_none, List.nil_append, ↓reduceIte, vcu, ↓vcd]
  have dE : decide (Enough ⟨s.O, s.E, s.M⟩) = true := decide_eq_true hE
  have hok := hrt.2 hE
  rw [rtL_ok hok, turned_length] at w6
  have hcv := rt_CV hok
  rw [turned_length] at hcv
  have hlr := routeN_length s (turned j) j
  have hlen := tris_lenK w6.tris
  rw [hlr] at hlen
  have hcv' : CV ⟨s.O, s.E, s.M⟩ (routeN s (turned j) j) := hcv
  have f6 := s6 _ _ f3
  have l6 : lds τ6 c3 0 3 = some [.int .i64 s.O, .int .i64 s.E, .int .i64 s.M] := lds_three (ld_of f6 rfl) (ld_of f6 rfl) (ld_of f6 rfl)
  rw [dE] at h4 ⊢
  simp -implicitDefEqProofs (disch := omega) only [List.any_cons, List.any_nil, Nat.reduceEqDiff, List.map_cons, List.map_nil, Option.map_some, Option.map_none, List.nil_append, ↓reduceIte, vcu, ↓vcd, opK_some, List.getElem?_toArray, List.getElem?_cons_zero, List.getElem?_cons_succ, h3, h4, h5, Bool.not_true, beq_self_eq_true, l6, co24]
  refine (implCV_calls τ6 s.O s.E s.M v _ w6.tris (by omega)).mono ?_
  rintro r τ7 ⟨rfl, q7⟩
  subst q7
  rw [decide_eq_true hcv']
  simp -implicitDefEqProofs (disch := omega) only [List.any_cons, List.any_nil, Nat.reduceEqDiff, List.map_cons, List.map_nil, Option.map_some, Option.map_none, List.nil_append, ↓reduceIte, vcu, ↓vcd, opK_some, h5, hlen]
  refine (alive_at _).mono ?_
  rintro r _ ⟨rfl, rfl⟩
  simp -implicitDefEqProofs (disch := omega) only [List.any_cons, List.any_nil, Nat.reduceEqDiff, List.map_cons, List.map_nil, Option.map_some, Option.map_none, List.nil_append, ↓reduceIte, vcu, ↓vcd, opK_some]
  refine fin_one Try.results9 ?_
  simp -implicitDefEqProofs (disch := omega) only [List.any_cons, List.any_nil, Nat.reduceEqDiff, List.map_cons, List.map_nil, Option.map_some, Option.map_none, List.nil_append, ↓reduceIte, vcu, ↓vcd]

open Go.ChangeShapes Go.WideShapes Go.ChangeAt Go.RowKit

set_option maxRecDepth 100000 in
theorem lifted9 (os : Os) (started : os.Started) (H : Type) (enc : TypeId × Value → H) :
    ReturnsInHanded {} Try.checked os 9 .any (Rows.fnEnoughSpec.pre6 enc Try.prog Try.f9 Rows.fnEnoughRow.domain false) (Rows.fnEnoughSpec.post enc Try.prog Try.f9 false true false false) := by
  refine returnsInHanded_of_change (C := Try.checked) own started (by kernel_rfl) Try.func9
    (ChangeSpec.witness6 (enc := enc) (C := Try.checked) false ⟨#[], #[.slice none 0 0], []⟩ 8 (by kernel_rfl) (by kernel_rfl) (by kernel_rfl) (by kernel_rfl)) ?_
  intro W base args ds gs before hval hW _ _
  have hW' := hW
  obtain ⟨p, q, hA, hV, -, -, -⟩ := hW'
  rw [Try.params9] at hA hval
  obtain ⟨v0, vs0, d0, ds0, p0, q0, hargs, rfl, rfl, h0, r0⟩ := trodAll_cons hA
  obtain ⟨rfl, rfl, rfl⟩ := trodAll_nil r0
  obtain ⟨rfl, rfl⟩ := trodVars_none hV
  obtain rfl : args = #[v0] := by cases args; simp_all
  obtain ⟨β0, σ0, a0, zs0, L0, U0, S0, R0, I0, w0, m0⟩ := start_ints Try.underlying22 Try.underlying5 co5 (Start.start W) (hval 0 22 v0 rfl rfl) h0
  refine ((law9 σ0 a0 zs0 (I0) m0 w0).2 noProt β0 W [v0] S0.rel (.cons R0 (.nil _))).mono fun e W' h => ?_
  obtain ⟨β', r, r', σ', -, rfl, hr, hrel, rfl⟩ := h
  cases hr
  exact ⟨_, rfl, law_post laidOut hW rfl rfl (by rw [Try.params9]; intro t ht; simp only [List.mem_cons, List.not_mem_nil, or_false, or_self] at ht; rcases ht with rfl <;> exact ⟨by kernel_rfl, of_decide_eq_true (by kernel_rfl)⟩) rfl Try.underlying4 hrel.below⟩

theorem facts9 : joinedFacts Try.prog 9 Try.f9 Rows.fnEnoughSpec Rows.fnEnoughRow = true := by
  unfold joinedFacts
  rw [mayE, liftsE, makeE]
  kernel_rfl

theorem proved9 : Rows.FnEnoughSaid :=
  OpenClaim.holds_of_wide 9 Try.f9 rfl rfl rfl rfl rfl rfl rfl ⟨rfl, rfl, rfl, rfl, rfl⟩ rfl rfl rfl rfl rfl (by kernel_rfl) Try.func9 facts9 (of_decide_eq_true (by kernel_rfl))
    (by unfold Func.isWrapper; first | (rw [if_pos (by decide +kernel)]; kernel_rfl) | (rw [if_neg (by decide +kernel)]; exact ⟨rfl, rfl⟩))
    (fun os started H enc _ => lifted9 os started H enc)


end Go.Proofs.Ytphacjkogompoaa

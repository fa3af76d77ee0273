/- FnRouteOf answers true for every code. -/
import Derived.Test.YtnenopebfobajaaKo
set_option linter.unusedSimpArgs false
set_option linter.unusedVariables false
namespace Go.Proofs.Ytnenopebfobajaa
open Go Go.Abs Go.RowKit Go.Dial
variable {w0 : World}

theorem law15 (σ : AHeap) (v : Value) (bs : List Int) (hv : Ints .u8 σ v bs) (hm : bs.length ≤ maxLen) (hw : ∀ z ∈ bs, (Lit.int .u8 z).wf = true) :
    ACall Try.prog w0 15 [v] σ fun r _ => r = .bool true := by
  unfold maxLen at hm
  refine ACall.ints_arg (pre := []) (by kernel_rfl) hv fun σ1 h o hs hg => ?_
  clear hv hs σ v
  have hb := bytes_of hw
  refine acall_go mixed Try.func15 rfl good15 fun pr => ?_
  by_cases hbig : 1048576 < bs.length
  · simp -implicitDefEqProofs (disch := omega) only [List.any_cons, List.any_nil, Nat.reduceEqDiff, List.map_cons, List.map_nil, Option.map_some, Option.map_none, List.nil_append, ↓reduceIte, vcu, ↓vcd]
    refine fin_one Try.results15 ?_
    simp -implicitDefEqProofs (disch := omega) only [List.any_cons, List.any_nil, Nat.reduceEqDiff, List.map_cons, List.map_nil, Option.map_some, Option.map_none, List.nil_append, ↓reduceIte, vcu, ↓vcd]
  have hl : bs.length ≤ 1048576 := by omega
  simp -implicitDefEqProofs (disch := omega) only [List.any_cons, List.any_nil, Nat.reduceEqDiff, List.map_cons, List.map_nil, Option.map_some, Option.map_none, List.nil_append, ↓reduceIte, vcu, ↓vcd]
  refine (drawRouteOf_at σ1 h o bs hg hl hb).mono ?_
  rintro _ τ ⟨v, cs, s, rfl, hv, hl1, hl2, hs30, hs⟩
  clear hg hl hb hs
  have hp4 : ∀ c ∈ cs, c.b.length ≤ 1048576 := fun x hx => by have := hl2 x hx; omega
  simp -implicitDefEqProofs (disch := omega) only [List.any_cons, List.any_nil, Nat.reduceEqDiff, List.map_cons, List.map_nil, Option.map_some, Option.map_none, List.nil_append, ↓reduceIte, vcu, ↓vcd, opK_some, List.getElem?_toArray, List.getElem?_cons_zero, List.getElem?_cons_succ]
  refine (implRO_calls τ v cs s hv (by omega) hp4 (by omega)).mono ?_
  rintro _ _ ⟨rfl, rfl⟩
  rename_i τ
  simp -implicitDefEqProofs (disch := omega) only [List.any_cons, List.any_nil, Nat.reduceEqDiff, List.map_cons, List.map_nil, Option.map_some, Option.map_none, List.nil_append, ↓reduceIte, vcu, ↓vcd, opK_some]
  refine (routeOf_calls τ v cs s hv (by omega) hp4 (by omega)).mono ?_
  rintro _ _ ⟨rfl, rfl⟩
  rename_i τ
  simp -implicitDefEqProofs (disch := omega) only [List.any_cons, List.any_nil, Nat.reduceEqDiff, List.map_cons, List.map_nil, Option.map_some, Option.map_none, List.nil_append, ↓reduceIte, vcu, ↓vcd, opK_some, ne_eq, not_true_eq_false, decide_false]
  refine (rtValid_calls τ v cs hv (by omega) hp4).mono ?_
  rintro _ _ ⟨rfl, rfl⟩
  rename_i τ
  by_cases hd : RtOk cs
  case neg =>
    have e : routeV cs s = -1 := by unfold routeV; rw [if_neg fun h => hd h.1]
    rw [decide_eq_false hd, e]
    simp -implicitDefEqProofs (disch := omega) only [List.any_cons, List.any_nil, Nat.reduceEqDiff, List.map_cons, List.map_nil, Option.map_some, Option.map_none, List.nil_append, ↓reduceIte, vcu, ↓vcd, opK_some, Bool.not_false, decide_true]
    refine (alive_at _).mono ?_
    rintro r _ ⟨rfl, rfl⟩
    simp -implicitDefEqProofs (disch := omega) only [List.any_cons, List.any_nil, Nat.reduceEqDiff, List.map_cons, List.map_nil, Option.map_some, Option.map_none, List.nil_append, ↓reduceIte, vcu, ↓vcd, opK_some]
    refine fin_one Try.results15 ?_
    simp -implicitDefEqProofs (disch := omega) only [List.any_cons, List.any_nil, Nat.reduceEqDiff, List.map_cons, List.map_nil, Option.map_some, Option.map_none, List.nil_append, ↓reduceIte, vcu, ↓vcd]
  rw [decide_eq_true hd]
  simp -implicitDefEqProofs (disch := omega) only [List.any_cons, List.any_nil, Nat.reduceEqDiff, List.map_cons, List.map_nil, Option.map_some, Option.map_none, List.nil_append, ↓reduceIte, vcu, ↓vcd, opK_some, Bool.not_true]
  refine (digits_calls τ s (by omega)).mono ?_
  rintro _ _ ⟨rfl, rfl⟩
  rename_i τ
  by_cases hdg : DgT s
  case neg =>
    have e : routeV cs s = -1 := by unfold routeV; rw [if_neg fun h => hdg h.2]
    rw [decide_eq_false hdg, e]
    simp -implicitDefEqProofs (disch := omega) only [List.any_cons, List.any_nil, Nat.reduceEqDiff, List.map_cons, List.map_nil, Option.map_some, Option.map_none, List.nil_append, ↓reduceIte, vcu, ↓vcd, opK_some, Bool.not_false, decide_true]
    refine (alive_at _).mono ?_
    rintro r _ ⟨rfl, rfl⟩
    simp -implicitDefEqProofs (disch := omega) only [List.any_cons, List.any_nil, Nat.reduceEqDiff, List.map_cons, List.map_nil, Option.map_some, Option.map_none, List.nil_append, ↓reduceIte, vcu, ↓vcd, opK_some]
    refine fin_one Try.results15 ?_
    simp -implicitDefEqProofs (disch := omega) only [List.any_cons, List.any_nil, Nat.reduceEqDiff, List.map_cons, List.map_nil, Option.map_some, Option.map_none, List.nil_append, ↓reduceIte, vcu, ↓vcd]
  rw [decide_eq_true hdg]
  have eR : routeV cs s = (rtF cs s cs.length).1 := by unfold routeV; rw [if_pos ⟨hd, hdg⟩]
  obtain ⟨ad, z, rfl⟩ := ruts_lenV hv
  simp -implicitDefEqProofs (disch := omega) only [List.any_cons, List.any_nil, Nat.reduceEqDiff, List.map_cons, List.map_nil, Option.map_some, Option.map_none, List.nil_append, ↓reduceIte, vcu, ↓vcd, opK_some, Bool.not_true]
  refine vc_loop_c mixed (by kernel_rfl) [3, 4, 5] (fun m a σ' => ∃ k : Nat, m + k = cs.length ∧ a 8 = .int .i64 k ∧ a 6 = .int .i64 (rtF cs s k).2 ∧ a 7 = .int .i64 (rtF cs s k).1 ∧ σ' = τ) cs.length ⟨0, by simp, rfl, rfl, rfl, rfl⟩ ?_
  rintro m a σ' hc ⟨k, hk, h8, h6, h7, rfl⟩
  simp -implicitDefEqProofs (disch := omega) only [List.any_cons, List.any_nil, Nat.reduceEqDiff, List.map_cons, List.map_nil, Option.map_some, Option.map_none, List.nil_append, ↓reduceIte, vcu, ↓vcd] at hc
  obtain ⟨h3, h4, h5, -⟩ := hc
  by_cases hlt : k < cs.length
  · rcases hv with ⟨-, rfl⟩ | ⟨g, p, e, hat⟩
    · exact absurd hlt (by simp)
    cases e
    obtain ⟨x1, x2⟩ := hat k hlt
    have hg : rtF cs s (k + 1) = if Beg s (cs.getD k rt0).b ∧ (rtF cs s k).2 < (cs.getD k rt0).b.length then ((cs.getD k rt0).n, ((cs.getD k rt0).b.length : Int)) else rtF cs s k := rfl
    by_cases hle : (cs.getD k rt0).b.length ≤ s.length
    case neg =>
      rw [if_neg fun h => hle h.1.1] at hg
      simp -implicitDefEqProofs (disch := omega) only [List.any_cons, List.any_nil, Nat.reduceEqDiff, List.map_cons, List.map_nil, Option.map_some, Option.map_none, List.nil_append, ↓reduceIte, vcu, ↓vcd, h3, h4, h5, h6, h7, h8, x1, x2, Nat.add_zero]
      exact ⟨by simp [h3, h4, h5], m - 1, by omega, k + 1, by omega, by simp, by rw [hg], by rw [hg], trivial⟩
    by_cases heq : s.take (cs.getD k rt0).b.length = (cs.getD k rt0).b
    case neg =>
      rw [if_neg fun h => heq h.1.2] at hg
      have dn : decide (s.take (cs.getD k rt0).b.length = (cs.getD k rt0).b) = false := decide_eq_false heq
      simp -implicitDefEqProofs (disch := omega) only [List.any_cons, List.any_nil, Nat.reduceEqDiff, List.map_cons, List.map_nil, Option.map_some, Option.map_none, List.nil_append, ↓reduceIte, vcu, ↓vcd, h3, h4, h5, h6, h7, h8, x1, x2, Nat.add_zero, Int.toNat_natCast, dn]
      exact ⟨by simp [h3, h4, h5], m - 1, by omega, k + 1, by omega, by simp, by rw [hg], by rw [hg], trivial⟩
    have dn : decide (s.take (cs.getD k rt0).b.length = (cs.getD k rt0).b) = true := decide_eq_true heq
    by_cases hlg : (rtF cs s k).2 < (cs.getD k rt0).b.length
    · rw [if_pos ⟨⟨hle, heq⟩, hlg⟩] at hg
      simp -implicitDefEqProofs (disch := omega) only [List.any_cons, List.any_nil, Nat.reduceEqDiff, List.map_cons, List.map_nil, Option.map_some, Option.map_none, List.nil_append, ↓reduceIte, vcu, ↓vcd, h3, h4, h5, h6, h7, h8, x1, x2, Nat.add_zero, Int.toNat_natCast, dn]
      exact ⟨by simp [h3, h4, h5], m - 1, by omega, k + 1, by omega, by simp, by rw [hg], by rw [hg], trivial⟩
    · rw [if_neg fun h => hlg h.2] at hg
      simp -implicitDefEqProofs (disch := omega) only [List.any_cons, List.any_nil, Nat.reduceEqDiff, List.map_cons, List.map_nil, Option.map_some, Option.map_none, List.nil_append, ↓reduceIte, vcu, ↓vcd, h3, h4, h5, h6, h7, h8, x1, x2, Nat.add_zero, Int.toNat_natCast, dn]
      exact ⟨by simp [h3, h4, h5], m - 1, by omega, k + 1, by omega, by simp, by rw [hg], by rw [hg], trivial⟩
  obtain rfl : k = cs.length := by omega
  have eX : decide (routeV cs s = (rtF cs s cs.length).1) = true := decide_eq_true eR
  by_cases h3l : s.length < 3
  · simp -implicitDefEqProofs (disch := omega) only [List.any_cons, List.any_nil, Nat.reduceEqDiff, List.map_cons, List.map_nil, Option.map_some, Option.map_none, List.nil_append, ↓reduceIte, vcu, ↓vcd, h3, h4, h5, h6, h7, h8, eX]
    refine fin_one Try.results15 ?_
    simp -implicitDefEqProofs (disch := omega) only [List.any_cons, List.any_nil, Nat.reduceEqDiff, List.map_cons, List.map_nil, Option.map_some, Option.map_none, List.nil_append, ↓reduceIte, vcu, ↓vcd]
  · have a3 : abin Try.prog 9 .add (.string (tx s)) (.string { data := #[50] }) = some (.string (tx (s ++ [50]))) := abin_sadd (by simp; omega)
    simp -implicitDefEqProofs (disch := omega) only [List.any_cons, List.any_nil, Nat.reduceEqDiff, List.map_cons, List.map_nil, Option.map_some, Option.map_none, List.nil_append, ↓reduceIte, vcu, ↓vcd, h3, h4, h5, h6, h7, h8, eX, a3]
    refine (implRO_calls σ' _ cs (s ++ [50]) hv (by omega) hp4 (by simp; omega)).mono ?_
    rintro _ _ ⟨rfl, rfl⟩
    rw [route_app hd hdg (show DgT [50] by decide) (by omega)]
    simp -implicitDefEqProofs (disch := omega) only [List.any_cons, List.any_nil, Nat.reduceEqDiff, List.map_cons, List.map_nil, Option.map_some, Option.map_none, List.nil_append, ↓reduceIte, vcu, ↓vcd, opK_some, h3, h4, h5, h6, h7, h8, decide_true]
    refine fin_one Try.results15 ?_
    simp -implicitDefEqProofs (disch := omega) only [List.any_cons, List.any_nil, Nat.reduceEqDiff, List.map_cons, List.map_nil, Option.map_some, Option.map_none, List.nil_append, ↓reduceIte, vcu, ↓vcd]

open Go.ChangeShapes Go.WideShapes Go.ChangeAt Go.RowKit

set_option maxRecDepth 100000 in
theorem lifted15 (os : Os) (started : os.Started) (H : Type) (enc : TypeId × Value → H) :
    ReturnsInHanded {} Try.checked os 15 .any (Rows.fnRouteOfSpec.pre6 enc Try.prog Try.f15 Rows.fnRouteOfRow.domain false) (Rows.fnRouteOfSpec.post enc Try.prog Try.f15 false true false false) := by
  refine returnsInHanded_of_change (C := Try.checked) own started (by kernel_rfl) Try.func15
    (ChangeSpec.witness6 (enc := enc) (C := Try.checked) false ⟨#[], #[.slice none 0 0], []⟩ 8 (by kernel_rfl) (by kernel_rfl) (by kernel_rfl) (by kernel_rfl)) ?_
  intro W base args ds gs before hval hW _ _
  have hW' := hW
  obtain ⟨p, q, hA, hV, -, -, -⟩ := hW'
  rw [Try.params15] at hA hval
  obtain ⟨v0, vs0, d0, ds0, p0, q0, hargs, rfl, rfl, h0, r0⟩ := trodAll_cons hA
  obtain ⟨rfl, rfl, rfl⟩ := trodAll_nil r0
  obtain ⟨rfl, rfl⟩ := trodVars_none hV
  obtain rfl : args = #[v0] := by cases args; simp_all
  obtain ⟨β0, σ0, a0, zs0, L0, U0, S0, R0, I0, w0, m0⟩ := start_ints Try.underlying22 Try.underlying5 co5 (Start.start W) (hval 0 22 v0 rfl rfl) h0
  refine ((law15 σ0 a0 zs0 (I0) m0 w0).2 noProt β0 W [v0] S0.rel (.cons R0 (.nil _))).mono fun e W' h => ?_
  obtain ⟨β', r, r', σ', -, rfl, hr, hrel, rfl⟩ := h
  cases hr
  exact ⟨_, rfl, law_post laidOut hW rfl rfl (by rw [Try.params15]; intro t ht; simp only [List.mem_cons, List.not_mem_nil, or_false, or_self] at ht; rcases ht with rfl <;> exact ⟨by kernel_rfl, of_decide_eq_true (by kernel_rfl)⟩) rfl Try.underlying4 hrel.below⟩

theorem facts15 : joinedFacts Try.prog 15 Try.f15 Rows.fnRouteOfSpec Rows.fnRouteOfRow = true := by
  unfold joinedFacts
  rw [mayE, liftsE, makeE]
  kernel_rfl

theorem proved15 : Rows.FnRouteOfSaid :=
  OpenClaim.holds_of_wide 15 Try.f15 rfl rfl rfl rfl rfl rfl rfl ⟨rfl, rfl, rfl, rfl, rfl⟩ rfl rfl rfl rfl rfl (by kernel_rfl) Try.func15 facts15 (of_decide_eq_true (by kernel_rfl))
    (by unfold Func.isWrapper; first | (rw [if_pos (by decide +kernel)]; kernel_rfl) | (rw [if_neg (by decide +kernel)]; exact ⟨rfl, rfl⟩))
    (fun os started H enc _ => lifted15 os started H enc)


end Go.Proofs.Ytnenopebfobajaa

/- FnRoutesLess answers true for every code. -/
import Derived.Test.YtnenopebfobajaaKp
set_option linter.unusedSimpArgs false
set_option linter.unusedVariables false
namespace Go.Proofs.Ytnenopebfobajaa
open Go Go.Abs Go.RowKit Go.Dial
variable {w0 : World}

set_option maxRecDepth 8000 in
theorem law16 (σ : AHeap) (v : Value) (bs : List Int) (hv : Ints .u8 σ v bs) (hm : bs.length ≤ maxLen) (hw : ∀ z ∈ bs, (Lit.int .u8 z).wf = true) :
    ACall Try.prog w0 16 [v] σ fun r _ => r = .bool true := by
  unfold maxLen at hm
  refine ACall.ints_arg (pre := []) (by kernel_rfl) hv fun σ1 h o hs hg => ?_
  clear hv hs σ v
  have hb := bytes_of hw
  refine acall_go mixed Try.func16 rfl good16 fun pr => ?_
  by_cases hbig : 1048576 < bs.length
  · simp -implicitDefEqProofs (disch := omega) only [List.any_cons, List.any_nil, Nat.reduceEqDiff, List.map_cons, List.map_nil, Option.map_some, Option.map_none, List.nil_append, ↓reduceIte, vcu, ↓vcd]
    refine fin_one Try.results16 ?_
    simp -implicitDefEqProofs (disch := omega) only [List.any_cons, List.any_nil, Nat.reduceEqDiff, List.map_cons, List.map_nil, Option.map_some, Option.map_none, List.nil_append, ↓reduceIte, vcu, ↓vcd]
  have hl : bs.length ≤ 1048576 := by omega
  simp -implicitDefEqProofs (disch := omega) only [List.any_cons, List.any_nil, Nat.reduceEqDiff, List.map_cons, List.map_nil, Option.map_some, Option.map_none, List.nil_append, ↓reduceIte, vcu, ↓vcd]
  refine (drawRoutesLess_at σ1 h o bs hg hl hb).mono ?_
  rintro r τ ⟨cs, hv, hl1, hl2, hs⟩
  clear hg hl hb hs
  have hp4 : ∀ c ∈ cs, c.b.length ≤ 1048576 := fun x hx => by have := hl2 x hx; omega
  have hlv := lessV_len cs
  simp -implicitDefEqProofs (disch := omega) only [List.any_cons, List.any_nil, Nat.reduceEqDiff, List.map_cons, List.map_nil, Option.map_some, Option.map_none, List.nil_append, ↓reduceIte, vcu, ↓vcd, opK_some]
  refine (implRL_calls τ r cs hv (by omega) hp4).mono ?_
  rintro v1 τ1 ⟨s1, o1⟩
  simp -implicitDefEqProofs (disch := omega) only [List.any_cons, List.any_nil, Nat.reduceEqDiff, List.map_cons, List.map_nil, Option.map_some, Option.map_none, List.nil_append, ↓reduceIte, vcu, ↓vcd, opK_some]
  refine (less_calls τ1 r cs (hv.sub s1) (by omega) hp4).mono ?_
  rintro v2 τ2 ⟨s2, o2⟩
  have hv2 := (hv.sub s1).sub s2
  have t1 := o1.ruts.sub s2
  simp -implicitDefEqProofs (disch := omega) only [List.any_cons, List.any_nil, Nat.reduceEqDiff, List.map_cons, List.map_nil, Option.map_some, Option.map_none, List.nil_append, ↓reduceIte, vcu, ↓vcd, opK_some]
  refine (sameR_calls τ2 v1 v2 _ _ t1 o2.ruts (by omega) (by omega)).mono ?_
  rintro _ _ ⟨rfl, rfl⟩
  rename_i τ2
  simp -implicitDefEqProofs (disch := omega) only [List.any_cons, List.any_nil, Nat.reduceEqDiff, List.map_cons, List.map_nil, Option.map_some, Option.map_none, List.nil_append, ↓reduceIte, vcu, ↓vcd, opK_some, eq_self, decide_true, Bool.not_true, beq_self_eq_true]
  refine (rtValid_calls τ2 r cs hv2 (by omega) hp4).mono ?_
  rintro _ _ ⟨rfl, rfl⟩
  rename_i τ2
  clear o1 o2 s1 s2 hv
  obtain ⟨ad, z, rfl⟩ := ruts_lenV t1
  obtain ⟨ad2, z2, rfl⟩ := ruts_lenV hv2
  by_cases hd : RtOk cs
  case neg =>
    have eV : (lessV cs).length = 0 := by rw [lessV, if_neg hd]; rfl
    rw [decide_eq_false hd]
    simp -implicitDefEqProofs (disch := omega) only [List.any_cons, List.any_nil, Nat.reduceEqDiff, List.map_cons, List.map_nil, Option.map_some, Option.map_none, List.nil_append, ↓reduceIte, vcu, ↓vcd, opK_some, Bool.not_false]
    refine (alive_at _).mono ?_
    rintro r _ ⟨rfl, rfl⟩
    simp -implicitDefEqProofs (disch := omega) only [List.any_cons, List.any_nil, Nat.reduceEqDiff, List.map_cons, List.map_nil, Option.map_some, Option.map_none, List.nil_append, ↓reduceIte, vcu, ↓vcd, opK_some]
    refine fin_one Try.results16 ?_
    simp -implicitDefEqProofs (disch := omega) only [List.any_cons, List.any_nil, Nat.reduceEqDiff, List.map_cons, List.map_nil, Option.map_some, Option.map_none, List.nil_append, ↓reduceIte, vcu, ↓vcd]
  rw [decide_eq_true hd]
  obtain ⟨w1, w2, w3, w4⟩ := less_ok hd
  have hpx : ∀ c ∈ lessV cs, c.b.length ≤ 1048576 := fun c hc => by
    have := ((rtP_iff.1 w1).ok c hc).2.1; omega
  generalize hX : lessV cs = xs at *
  simp -implicitDefEqProofs (disch := omega) only [List.any_cons, List.any_nil, Nat.reduceEqDiff, List.map_cons, List.map_nil, Option.map_some, Option.map_none, List.nil_append, ↓reduceIte, vcu, ↓vcd, opK_some, Bool.not_true]
  refine vc_loop_c mixed (by kernel_rfl) [3, 4] (fun m a σ' => ∃ n : Nat, m + n = 64 ∧ a 5 = .int .i64 n ∧ σ' = τ2) 64 ⟨0, by simp, rfl, rfl⟩ ?_
  rintro m a σ' hc ⟨n, hn, h5, rfl⟩
  simp -implicitDefEqProofs (disch := omega) only [List.any_cons, List.any_nil, Nat.reduceEqDiff, List.map_cons, List.map_nil, Option.map_some, Option.map_none, List.nil_append, ↓reduceIte, vcu, ↓vcd] at hc
  obtain ⟨h3, h4, -⟩ := hc
  by_cases hlt : n < 64
  · have ht := thr_ok n
    simp -implicitDefEqProofs (disch := omega) only [List.any_cons, List.any_nil, Nat.reduceEqDiff, List.map_cons, List.map_nil, Option.map_some, Option.map_none, List.nil_append, ↓reduceIte, vcu, ↓vcd, h3, h4, h5]
    refine (three_at σ' n hlt).mono ?_
    rintro _ _ ⟨rfl, rfl⟩
    rename_i σ'
    simp -implicitDefEqProofs (disch := omega) only [List.any_cons, List.any_nil, Nat.reduceEqDiff, List.map_cons, List.map_nil, Option.map_some, Option.map_none, List.nil_append, ↓reduceIte, vcu, ↓vcd, opK_some, h3, h4, h5]
    refine (implRO_calls σ' _ xs (thr n) t1 (by omega) hpx (by omega)).mono ?_
    rintro _ _ ⟨rfl, rfl⟩
    rename_i σ'
    simp -implicitDefEqProofs (disch := omega) only [List.any_cons, List.any_nil, Nat.reduceEqDiff, List.map_cons, List.map_nil, Option.map_some, Option.map_none, List.nil_append, ↓reduceIte, vcu, ↓vcd, opK_some, h3, h4, h5]
    refine (three_at σ' n hlt).mono ?_
    rintro _ _ ⟨rfl, rfl⟩
    rename_i σ'
    simp -implicitDefEqProofs (disch := omega) only [List.any_cons, List.any_nil, Nat.reduceEqDiff, List.map_cons, List.map_nil, Option.map_some, Option.map_none, List.nil_append, ↓reduceIte, vcu, ↓vcd, opK_some, h3, h4, h5]
    refine (implRO_calls σ' _ cs (thr n) hv2 (by omega) hp4 (by omega)).mono ?_
    rintro _ _ ⟨rfl, rfl⟩
    rw [w3 (thr n) ht.1]
    simp -implicitDefEqProofs (disch := omega) only [List.any_cons, List.any_nil, Nat.reduceEqDiff, List.map_cons, List.map_nil, Option.map_some, Option.map_none, List.nil_append, ↓reduceIte, vcu, ↓vcd, opK_some, h3, h4, h5, ne_eq, not_true_eq_false, decide_false]
    exact ⟨by simp [h3, h4], m - 1, by omega, n + 1, by omega, by simp, trivial⟩
  simp -implicitDefEqProofs (disch := omega) only [List.any_cons, List.any_nil, Nat.reduceEqDiff, List.map_cons, List.map_nil, Option.map_some, Option.map_none, List.nil_append, ↓reduceIte, vcu, ↓vcd, h3, h4, h5]
  refine vc_loop_c mixed (by kernel_rfl) [3, 4] (fun m2 a2 σ2 => ∃ k : Nat, m2 + k = xs.length ∧ a2 6 = .int .i64 k ∧ Sub σ' σ2) xs.length ⟨0, by simp, rfl, Sub.refl _⟩ ?_
  rintro m2 a2 σ2 hc2 ⟨k, hk, h6, hs2⟩
  simp -implicitDefEqProofs (disch := omega) only [List.any_cons, List.any_nil, Nat.reduceEqDiff, List.map_cons, List.map_nil, Option.map_some, Option.map_none, List.nil_append, ↓reduceIte, vcu, ↓vcd, h3, h4] at hc2
  obtain ⟨d3, d4, -⟩ := hc2
  have t2 := t1.sub hs2
  by_cases hlk : k < xs.length
  · rcases t2 with ⟨-, rfl⟩ | ⟨g, p, e, hat⟩
    · exact absurd hlk (by simp)
    cases e
    have hb1 : ((k : Int) + 1).toNat = k + 1 := by omega
    simp -implicitDefEqProofs (disch := omega) only [List.any_cons, List.any_nil, Nat.reduceEqDiff, List.map_cons, List.map_nil, Option.map_some, Option.map_none, List.nil_append, ↓reduceIte, vcu, ↓vcd, d3, d4, h6]
    refine region_tree mixed (quiets [1, 2, 3, 5, 6, 7, 8] (.one 0 (.one 4 (.one 9 (quiets [10] .stop))))) [] (by kernel_rfl) (by kernel_rfl) (fun p hp => by cases hp) ?_
    refine tree_quiets _ _ _ _ sf0 (by kernel_rfl) (by kernel_rfl) ?_
    simp -implicitDefEqProofs (disch := omega) only [List.any_cons, List.any_nil, Nat.reduceEqDiff, List.map_cons, List.map_nil, Option.map_some, Option.map_none, List.nil_append, ↓reduceIte, vcu, ↓vcd, pickOps_nil, pickOps_cons, pickO_some, List.getElem?_cons_succ, List.getElem?_cons_zero, d4, h6, Int.toNat_natCast, hb1]
    refine tree_one rfl ?_
    refine r_lit el48 (out := #[]) (by kernel_rfl) (by kernel_rfl) fun ea τ5 n5 s5 v5 => ?_
    simp -implicitDefEqProofs (disch := omega) only [List.any_cons, List.any_nil, Nat.reduceEqDiff, List.map_cons, List.map_nil, Option.map_some, Option.map_none, List.nil_append, ↓reduceIte, vcu, ↓vcd]
    refine ⟨keep_of rfl (fun p hp => by cases hp), tree_one rfl ?_⟩
    have hl5 := hat.sub s5
    refine r_pushR (g := ea) (e := g) (o := p) (cs := []) (ds := xs.take k) (m := k) (len := 0) el48 (by omega) sl48 (by simp -implicitDefEqProofs (disch := omega) only [List.any_cons, List.any_nil, Nat.reduceEqDiff, List.map_cons, List.map_nil, Option.map_some, Option.map_none, List.nil_append, ↓reduceIte, vcu, ↓vcd]) v5 rfl (by simp -implicitDefEqProofs (disch := omega) only [List.any_cons, List.any_nil, Nat.reduceEqDiff, List.map_cons, List.map_nil, Option.map_some, Option.map_none, List.nil_append, ↓reduceIte, vcu, ↓vcd, Int.toNat_natCast]) (hl5.take _) (by rw [List.length_take]; omega) (by omega) fun gb τ6 n6 k6 v6 => ?_
    rw [List.nil_append] at v6
    have f5 := free_sub hs2 n5
    have hs6 : Sub σ' τ6 := k6.sub (hs2.trans s5) f5
    have hl6 : RutsAt τ6 g p xs := hat.sub (k6.sub s5 n5)
    have nb := free_sub (hs2.trans s5) n6
    have nb2 := free_sub s5 n6
    simp -implicitDefEqProofs (disch := omega) only [List.any_cons, List.any_nil, Nat.reduceEqDiff, List.map_cons, List.map_nil, Option.map_some, Option.map_none, List.nil_append, ↓reduceIte, vcu, ↓vcd, Nat.zero_add]
    refine ⟨keep_of rfl (fun p hp => by cases hp), tree_one rfl ?_⟩
    have hdr := hl6.drop (k + 1)
    refine r_pushR (g := gb) (e := g) (o := p + (k + 1) * 2) (cs := xs.take k) (ds := xs.drop (k + 1)) (m := xs.length - (k + 1)) (len := k) el48 (by omega) sl48 (by simp -implicitDefEqProofs (disch := omega) only [List.any_cons, List.any_nil, Nat.reduceEqDiff, List.map_cons, List.map_nil, Option.map_some, Option.map_none, List.nil_append, ↓reduceIte, vcu, ↓vcd]) v6 (by rw [List.length_take]; omega) (by simp -implicitDefEqProofs (disch := omega) only [List.any_cons, List.any_nil, Nat.reduceEqDiff, List.map_cons, List.map_nil, Option.map_some, Option.map_none, List.nil_append, ↓reduceIte, vcu, ↓vcd, Int.toNat_natCast, hb1]) hdr (by rw [List.length_drop]) (by omega) fun gc τ7 n7 k7 v7 => ?_
    have hs7 : Sub σ' τ7 := k7.sub hs6 nb
    have hl7 : RutsAt τ7 g p xs := hat.sub (k7.sub (k6.sub s5 n5) nb2)
    have hrl := rmvR_len hlk
    have hrl2 : k + (xs.length - (k + 1)) = (rmvR xs k).length := by omega
    have v7' : τ7 gc = some ⟨ruts (rmvR xs k), false⟩ := v7
    simp -implicitDefEqProofs (disch := omega) only [List.any_cons, List.any_nil, Nat.reduceEqDiff, List.map_cons, List.map_nil, Option.map_some, Option.map_none, List.nil_append, ↓reduceIte, vcu, ↓vcd, hrl2]
    refine ⟨keep_of rfl (fun p hp => by cases hp), ?_⟩
    refine tree_quiets _ _ _ _ sf0 (by kernel_rfl) (by kernel_rfl) ?_
    simp -implicitDefEqProofs (disch := omega) only [List.any_cons, List.any_nil, Nat.reduceEqDiff, List.map_cons, List.map_nil, Option.map_some, Option.map_none, List.nil_append, ↓reduceIte, vcu, ↓vcd, pickOps_nil, pickOps_cons, pickO_some, List.getElem?_cons_succ, List.getElem?_cons_zero]
    refine tree_stop ?_
    obtain ⟨x1, x2⟩ := hl7 k hlk
    have hck : xs.getD k rt0 ∈ xs := by simp [List.getD, hlk]
    have hbk := hpx _ hck
    have hpr : ∀ c ∈ rmvR xs k, c.b.length ≤ 1048576 := fun c hc => hpx _ (rmvR_mem hc)
    have hne := w4 k hlk
    have d2 : decide (routeV (rmvR xs k) (xs.getD k rt0).b = (xs.getD k rt0).n) = false := decide_eq_false hne
    simp -implicitDefEqProofs (disch := omega) only [List.any_cons, List.any_nil, Nat.reduceEqDiff, List.map_cons, List.map_nil, Option.map_some, Option.map_none, List.nil_append, ↓reduceIte, vcu, ↓vcd, d3, d4, h6, x1, x2, Nat.add_zero]
    rw [r_callq]
    refine ⟨_, implRO_calls _ _ (rmvR xs k) (xs.getD k rt0).b (own_rutsI v7') (by omega) hpr hbk, ?_⟩
    simp -implicitDefEqProofs (disch := omega) only [List.any_cons, List.any_nil, Nat.reduceEqDiff, List.map_cons, List.map_nil, Option.map_some, Option.map_none, List.nil_append, ↓reduceIte, vcu, ↓vcd, d3, d4, h6, x1, x2, Nat.add_zero, d2]
    exact ⟨by simp [d3, d4, h3, h4], m2 - 1, by omega, k + 1, by omega, by simp, hs7⟩
  simp -implicitDefEqProofs (disch := omega) only [List.any_cons, List.any_nil, Nat.reduceEqDiff, List.map_cons, List.map_nil, Option.map_some, Option.map_none, List.nil_append, ↓reduceIte, vcu, ↓vcd, d3, d4, h6]
  refine (implRV_calls σ2 _ xs t2 (by omega) hpx).mono ?_
  rintro _ _ ⟨rfl, rfl⟩
  rw [decide_eq_true w1]
  have w2' : (xs.length : Int) ≤ cs.length := by omega
  simp -implicitDefEqProofs (disch := omega) only [List.any_cons, List.any_nil, Nat.reduceEqDiff, List.map_cons, List.map_nil, Option.map_some, Option.map_none, List.nil_append, ↓reduceIte, vcu, ↓vcd, opK_some, d3, d4, h6, w2']
  refine fin_one Try.results16 ?_
  simp -implicitDefEqProofs (disch := omega) only [List.any_cons, List.any_nil, Nat.reduceEqDiff, List.map_cons, List.map_nil, Option.map_some, Option.map_none, List.nil_append, ↓reduceIte, vcu, ↓vcd]

open Go.ChangeShapes Go.WideShapes Go.ChangeAt Go.RowKit

set_option maxRecDepth 100000 in
theorem lifted16 (os : Os) (started : os.Started) (H : Type) (enc : TypeId × Value → H) :
    ReturnsInHanded {} Try.checked os 16 .any (Rows.fnRoutesLessSpec.pre6 enc Try.prog Try.f16 Rows.fnRoutesLessRow.domain false) (Rows.fnRoutesLessSpec.post enc Try.prog Try.f16 false true false false) := by
  refine returnsInHanded_of_change (C := Try.checked) own started (by kernel_rfl) Try.func16
    (ChangeSpec.witness6 (enc := enc) (C := Try.checked) false ⟨#[], #[.slice none 0 0], []⟩ 8 (by kernel_rfl) (by kernel_rfl) (by kernel_rfl) (by kernel_rfl)) ?_
  intro W base args ds gs before hval hW _ _
  have hW' := hW
  obtain ⟨p, q, hA, hV, -, -, -⟩ := hW'
  rw [Try.params16] at hA hval
  obtain ⟨v0, vs0, d0, ds0, p0, q0, hargs, rfl, rfl, h0, r0⟩ := trodAll_cons hA
  obtain ⟨rfl, rfl, rfl⟩ := trodAll_nil r0
  obtain ⟨rfl, rfl⟩ := trodVars_none hV
  obtain rfl : args = #[v0] := by cases args; simp_all
  obtain ⟨β0, σ0, a0, zs0, L0, U0, S0, R0, I0, w0, m0⟩ := start_ints Try.underlying22 Try.underlying5 co5 (Start.start W) (hval 0 22 v0 rfl rfl) h0
  refine ((law16 σ0 a0 zs0 (I0) m0 w0).2 noProt β0 W [v0] S0.rel (.cons R0 (.nil _))).mono fun e W' h => ?_
  obtain ⟨β', r, r', σ', -, rfl, hr, hrel, rfl⟩ := h
  cases hr
  exact ⟨_, rfl, law_post laidOut hW rfl rfl (by rw [Try.params16]; intro t ht; simp only [List.mem_cons, List.not_mem_nil, or_false, or_self] at ht; rcases ht with rfl <;> exact ⟨by kernel_rfl, of_decide_eq_true (by kernel_rfl)⟩) rfl Try.underlying4 hrel.below⟩

theorem facts16 : joinedFacts Try.prog 16 Try.f16 Rows.fnRoutesLessSpec Rows.fnRoutesLessRow = true := by
  unfold joinedFacts
  rw [mayE, liftsE, makeE]
  kernel_rfl

theorem proved16 : Rows.FnRoutesLessSaid :=
  OpenClaim.holds_of_wide 16 Try.f16 rfl rfl rfl rfl rfl rfl rfl ⟨rfl, rfl, rfl, rfl, rfl⟩ rfl rfl rfl rfl rfl (by kernel_rfl) Try.func16 facts16 (of_decide_eq_true (by kernel_rfl))
    (by unfold Func.isWrapper; first | (rw [if_pos (by decide +kernel)]; kernel_rfl) | (rw [if_neg (by decide +kernel)]; exact ⟨rfl, rfl⟩))
    (fun os started H enc _ => lifted16 os started H enc)


end Go.Proofs.Ytnenopebfobajaa

/- FnPermOf answers true for every code. -/
import Derived.Test.YtdgbaglhhhbbhaaPK10
import Derived.Test.YtdgbaglhhhbbhaaLaw9
import Derived.Test.YtdgbaglhhhbbhaaLaw17
import Derived.Test.YtdgbaglhhhbbhaaPv
set_option linter.unusedSimpArgs false
set_option linter.unusedVariables false
namespace Go.Proofs.Ytdgbaglhhhbbhaa
open Go Go.Abs Go.RowKit
variable {w0 : World}

theorem of_all {n r : Nat} (hn : n ≤ 6) (hr : r < fac n) : ofOK n r = true := by
  by_cases h : n = 6
  · subst h
    exact List.all_eq_true.1 of_all6 r (List.mem_range.2 hr)
  · exact List.all_eq_true.1 (List.all_eq_true.1 of_all5 n (by simp; omega)) r (List.mem_range.2 hr)
theorem lexB_at : ∀ {xs ys : List Int}, lexB xs ys = true → ∀ i, i < ys.length → (∀ j, j < i → ys.getD j 0 = xs.getD j 0) → ys.getD i 0 ≠ xs.getD i 0 → xs.getD i 0 < ys.getD i 0
  | [], _, h, _, _, _, _ => by simp [lexB] at h
  | _ :: _, [], h, _, hi, _, _ => by simp at hi
  | x :: xs, y :: ys, h, i, hi, he, hne => by
    by_cases e : x = y
    · subst e
      have h' : lexB xs ys = true := by simpa [lexB] using h
      cases i with
      | zero => exact absurd rfl hne
      | succ i => exact lexB_at h' i (by simpa using hi) (fun j hj => by simpa using he (j + 1) (by omega)) (by simpa using hne)
    · have h' : x < y := by simpa [lexB, e] using h
      cases i with
      | zero => simpa using h'
      | succ i => exact absurd (by simpa using (he 0 (by omega)).symm) e
theorem lexB_ne : ∀ {xs ys : List Int}, lexB xs ys = true → xs ≠ ys
  | [], _, h, _ => by simp [lexB] at h
  | _ :: _, [], _, e => by simp at e
  | x :: xs, y :: ys, h, e => by
    obtain ⟨rfl, rfl⟩ := List.cons.inj e
    have h' : lexB xs xs = true := by simpa [lexB] using h
    exact lexB_ne h' rfl
theorem ofV_eq {n r : Nat} (h : OfOk n r) : ofV n r = ofL n r := by
  unfold ofV ofL
  rw [if_pos h]
  simp only [Int.toNat_natCast]
  rw [ofT_eq n _ n 0 (by omega)]
  rfl
theorem of_ok {n r : Nat} (h : OfOk n r) : Valid (ofV n r) ∧ rankV (ofV n r) = r ∧ (ofV n r).length = n ∧ (OfOk n ((r : Int) + 1) → lexB (ofV n r) (ofV n ((r : Int) + 1)) = true) := by
  have hn : n ≤ 6 := by have := h.2.1; omega
  have hr : r < fac n := by have := h.2.2.2; simp only [Int.toNat_natCast] at this; omega
  have hOK := of_all hn hr
  rw [ofV_eq h]
  unfold ofOK at hOK
  rw [Bool.and_eq_true, Bool.and_eq_true, Bool.and_eq_true] at hOK
  obtain ⟨h1, h2, h3, h4⟩ := hOK
  have h1 := of_decide_eq_true h1
  have h2 := Nat.eq_of_beq_eq_true h2
  have h3 := Nat.eq_of_beq_eq_true h3
  refine ⟨h1, by unfold rankV; rw [if_pos h1, h2], h3, fun hs => ?_⟩
  have es : ((r : Int) + 1) = ((r + 1 : Nat) : Int) := by omega
  rw [es] at hs ⊢
  rw [ofV_eq hs]
  have hr2 : r + 1 < fac n := by have := hs.2.2.2; simp only [Int.toNat_natCast] at this; omega
  rw [Bool.or_eq_true] at h4
  rcases h4 with h4 | h4
  · have := Nat.le_of_ble_eq_true h4; omega
  · exact h4

theorem law10 (σ : AHeap) (v : Value) (bs : List Int) (hv : Ints .u8 σ v bs) (hm : bs.length ≤ maxLen) (hw : ∀ z ∈ bs, (Lit.int .u8 z).wf = true) :
    ACall Try.prog w0 10 [v] σ fun r _ => r = .bool true := by
  unfold maxLen at hm
  refine ACall.ints_arg (pre := []) (by kernel_rfl) hv fun σ1 h o hs hg => ?_
  clear hv hs σ v
  have hb := bytes_of hw
  refine acall_go mixed Try.func10 rfl good10 ?_
  by_cases hbig : 1048576 < bs.length
  · simp -implicitDefEqProofs (disch := omega) only [List.any_cons, List.any_nil, Nat.reduceEqDiff, List.map_cons, List.map_nil, Option.map_some, Option.map_none, List.nil_append, ↓reduceIte, vcu0, vcu1, vcu2, vcu3, vcu4, vcu5, vcu6, vcu7, vcu8, vcu9, vcu10, vcu11, vcu12, vcu13, vcu14, ↓vcd0, ↓vcd1, ↓vcd2]
    refine fin_one Try.results10 ?_
    simp -implicitDefEqProofs (disch := omega) only [List.any_cons, List.any_nil, Nat.reduceEqDiff, List.map_cons, List.map_nil, Option.map_some, Option.map_none, List.nil_append, ↓reduceIte, vcu0, vcu1, vcu2, vcu3, vcu4, vcu5, vcu6, vcu7, vcu8, vcu9, vcu10, vcu11, vcu12, vcu13, vcu14, ↓vcd0, ↓vcd1, ↓vcd2]
  have hl : bs.length ≤ 1048576 := by omega
  simp -implicitDefEqProofs (disch := omega) only [List.any_cons, List.any_nil, Nat.reduceEqDiff, List.map_cons, List.map_nil, Option.map_some, Option.map_none, List.nil_append, ↓reduceIte, vcu0, vcu1, vcu2, vcu3, vcu4, vcu5, vcu6, vcu7, vcu8, vcu9, vcu10, vcu11, vcu12, vcu13, vcu14, ↓vcd0, ↓vcd1, ↓vcd2]
  refine (drawOf_at σ1 h o bs hg hl hb).mono ?_
  rintro _ τ ⟨l, rk, rfl, hl7, hrk, hs⟩
  clear hs hg
  have hb1 : (ofV l rk).length ≤ 1048576 := by have := ofV_length l rk; omega
  by_cases hOk : OfOk l rk
  · obtain ⟨n, rfl⟩ : ∃ n : Nat, l = n := ⟨l.toNat, by have := hOk.1; omega⟩
    obtain ⟨rn, rfl⟩ : ∃ rn : Nat, rk = rn := ⟨rk.toNat, by have := hOk.2.2.1; omega⟩
    obtain ⟨hV, hrank, hlen, hlex⟩ := of_ok hOk
    have h6 := ofV_length n rn
    have hI := implOf_at (w0 := w0) τ n rn
    have hS := fun σ => specOf_at (w0 := w0) σ n rn (by omega)
    have hN := fun σ => implOf_at (w0 := w0) σ n ((rn : Int) + 1)
    rw [decide_eq_true hOk] at hI
    simp only [decide_eq_true hOk] at hS
    have h6n := ofV_length n ((rn : Int) + 1)
    generalize ofV (n : Int) (rn : Int) = ps at *
    generalize hps2 : ofV (n : Int) ((rn : Int) + 1) = qs at *
    simp -implicitDefEqProofs (disch := omega) only [List.any_cons, List.any_nil, Nat.reduceEqDiff, List.map_cons, List.map_nil, Option.map_some, Option.map_none, List.nil_append, ↓reduceIte, vcu0, vcu1, vcu2, vcu3, vcu4, vcu5, vcu6, vcu7, vcu8, vcu9, vcu10, vcu11, vcu12, vcu13, vcu14, ↓vcd0, ↓vcd1, ↓vcd2, opK_some, List.getElem?_toArray, List.getElem?_cons_zero, List.getElem?_cons_succ]
    refine hI.mono ?_
    rintro _ τ1 ⟨g, rfl, s1, w1⟩
    simp -implicitDefEqProofs (disch := omega) only [List.any_cons, List.any_nil, Nat.reduceEqDiff, List.map_cons, List.map_nil, Option.map_some, Option.map_none, List.nil_append, ↓reduceIte, vcu0, vcu1, vcu2, vcu3, vcu4, vcu5, vcu6, vcu7, vcu8, vcu9, vcu10, vcu11, vcu12, vcu13, vcu14, ↓vcd0, ↓vcd1, ↓vcd2, opK_some, List.getElem?_toArray, List.getElem?_cons_zero, List.getElem?_cons_succ]
    refine (hS τ1).mono ?_
    rintro _ τ2 ⟨g2, rfl, s2, w2⟩
    simp -implicitDefEqProofs (disch := omega) only [List.any_cons, List.any_nil, Nat.reduceEqDiff, List.map_cons, List.map_nil, Option.map_some, Option.map_none, List.nil_append, ↓reduceIte, vcu0, vcu1, vcu2, vcu3, vcu4, vcu5, vcu6, vcu7, vcu8, vcu9, vcu10, vcu11, vcu12, vcu13, vcu14, ↓vcd0, ↓vcd1, ↓vcd2, opK_some, List.getElem?_toArray, List.getElem?_cons_zero, List.getElem?_cons_succ]
    have w1' := w1.sub s2
    refine (same_calls τ2 _ _ ps ps w1'.ints w2.ints (by omega) (by omega)).mono ?_
    rintro r _ ⟨rfl, rfl⟩
    simp -implicitDefEqProofs (disch := omega) only [List.any_cons, List.any_nil, Nat.reduceEqDiff, List.map_cons, List.map_nil, Option.map_some, Option.map_none, List.nil_append, ↓reduceIte, vcu0, vcu1, vcu2, vcu3, vcu4, vcu5, vcu6, vcu7, vcu8, vcu9, vcu10, vcu11, vcu12, vcu13, vcu14, ↓vcd0, ↓vcd1, ↓vcd2, opK_some, decide_true, beq_self_eq_true, Bool.not_true]
    refine (hN _).mono ?_
    rintro _ τ3 ⟨g3, rfl, s3, w3⟩
    have w1'' := w1'.sub s3
    by_cases hOn : OfOk n ((rn : Int) + 1)
    · have hlx := hlex hOn
      rw [decide_eq_true hOn]
      have hql : qs.length = n := by
        have e1 : ((rn : Int) + 1) = ((rn + 1 : Nat) : Int) := by omega
        rw [e1] at hOn hps2
        have := (of_ok hOn).2.2.1
        rwa [hps2] at this
      have hne := lexB_ne hlx
      have hn0 : 0 < n := by
        rcases Nat.eq_zero_or_pos n with h | h
        · subst h; exact absurd ((List.eq_nil_of_length_eq_zero hlen).trans (List.eq_nil_of_length_eq_zero hql).symm) hne
        · exact h
      rcases w1'' with ⟨-, h⟩ | ⟨gp, rfl, hgp, -⟩
      · rw [h] at hlen; simp at hlen; omega
      rcases w3 with ⟨-, h⟩ | ⟨gq, rfl, hgq, -⟩
      · rw [h] at hql; simp at hql; omega
      have hp := intsAt_own hgp
      have hq := intsAt_own hgq
      simp -implicitDefEqProofs (disch := omega) only [List.any_cons, List.any_nil, Nat.reduceEqDiff, List.map_cons, List.map_nil, Option.map_some, Option.map_none, List.nil_append, ↓reduceIte, vcu0, vcu1, vcu2, vcu3, vcu4, vcu5, vcu6, vcu7, vcu8, vcu9, vcu10, vcu11, vcu12, vcu13, vcu14, ↓vcd0, ↓vcd1, ↓vcd2, opK_some, List.getElem?_toArray, List.getElem?_cons_zero, List.getElem?_cons_succ]
      refine vc_loop_c mixed (by kernel_rfl) [4, 5, 9, 10] (fun m a σ' => ∃ k : Nat, m + k = n ∧ a 11 = .int .i64 k ∧ σ' = τ3 ∧ ∀ j, j < k → qs.getD j 0 = ps.getD j 0) n ⟨0, by simp, rfl, rfl, by simp⟩ ?_
      rintro m a σ' hc ⟨k, hk, h11, rfl, he⟩
      simp -implicitDefEqProofs (disch := omega) only [List.any_cons, List.any_nil, Nat.reduceEqDiff, List.map_cons, List.map_nil, Option.map_some, Option.map_none, List.nil_append, ↓reduceIte, vcu0, vcu1, vcu2, vcu3, vcu4, vcu5, vcu6, vcu7, vcu8, vcu9, vcu10, vcu11, vcu12, vcu13, vcu14, ↓vcd0, ↓vcd1, ↓vcd2] at hc
      obtain ⟨h4, h5, h9, h10, -⟩ := hc
      by_cases hlt : k < n
      · have hx := hp k (by omega)
        have hy := hq k (by omega)
        by_cases hxy : qs.getD k 0 = ps.getD k 0
        · simp -implicitDefEqProofs (disch := omega) only [List.any_cons, List.any_nil, Nat.reduceEqDiff, List.map_cons, List.map_nil, Option.map_some, Option.map_none, List.nil_append, ↓reduceIte, vcu0, vcu1, vcu2, vcu3, vcu4, vcu5, vcu6, vcu7, vcu8, vcu9, vcu10, vcu11, vcu12, vcu13, vcu14, ↓vcd0, ↓vcd1, ↓vcd2, h4, h5, h9, h10, h11, hx, hy]
          refine ⟨⟨trivial, trivial, trivial, trivial, trivial⟩, m - 1, by omega, k + 1, by omega, by simp, trivial, fun j hj => ?_⟩
          by_cases e : j = k
          · subst e; exact hxy
          · exact he j (by omega)
        · have hgt := lexB_at hlx k (by omega) he hxy
          simp -implicitDefEqProofs (disch := omega) only [List.any_cons, List.any_nil, Nat.reduceEqDiff, List.map_cons, List.map_nil, Option.map_some, Option.map_none, List.nil_append, ↓reduceIte, vcu0, vcu1, vcu2, vcu3, vcu4, vcu5, vcu6, vcu7, vcu8, vcu9, vcu10, vcu11, vcu12, vcu13, vcu14, ↓vcd0, ↓vcd1, ↓vcd2, h4, h5, h9, h10, h11, hx, hy]
          rw [r_callq]
          refine ⟨_, implRank_at σ' gp 0 ps hp (by omega), ?_⟩
          rw [hrank]
          simp -implicitDefEqProofs (disch := omega) only [List.any_cons, List.any_nil, Nat.reduceEqDiff, List.map_cons, List.map_nil, Option.map_some, Option.map_none, List.nil_append, ↓reduceIte, vcu0, vcu1, vcu2, vcu3, vcu4, vcu5, vcu6, vcu7, vcu8, vcu9, vcu10, vcu11, vcu12, vcu13, vcu14, ↓vcd0, ↓vcd1, ↓vcd2, h4]
          refine fin_one Try.results10 ?_
          simp -implicitDefEqProofs (disch := omega) only [List.any_cons, List.any_nil, Nat.reduceEqDiff, List.map_cons, List.map_nil, Option.map_some, Option.map_none, List.nil_append, ↓reduceIte, vcu0, vcu1, vcu2, vcu3, vcu4, vcu5, vcu6, vcu7, vcu8, vcu9, vcu10, vcu11, vcu12, vcu13, vcu14, ↓vcd0, ↓vcd1, ↓vcd2]
      · exfalso
        apply hne
        apply List.ext_getElem (by omega)
        intro i h1 h2
        have := he i (by omega)
        simpa [List.getD, h1, h2] using this.symm
    · rw [decide_eq_false hOn]
      have hqn : qs = [] := by rw [← hps2]; unfold ofV; rw [if_neg hOn]
      subst hqn
      have hR := fun σ hps => implRank_calls (w0 := w0) σ g ps hps (by omega)
      rw [hrank] at hR
      simp -implicitDefEqProofs (disch := omega) only [List.any_cons, List.any_nil, Nat.reduceEqDiff, List.map_cons, List.map_nil, Option.map_some, Option.map_none, List.nil_append, ↓reduceIte, vcu0, vcu1, vcu2, vcu3, vcu4, vcu5, vcu6, vcu7, vcu8, vcu9, vcu10, vcu11, vcu12, vcu13, vcu14, ↓vcd0, ↓vcd1, ↓vcd2, opK_some, List.getElem?_toArray, List.getElem?_cons_zero, List.getElem?_cons_succ]
      refine vc_loop_c mixed (by kernel_rfl) [4, 5, 9, 10] (fun m a σ' => a 11 = .int .i64 (0 : Nat) ∧ σ' = τ3) 0 ⟨rfl, rfl⟩ ?_
      rintro m a σ' hc ⟨h11, rfl⟩
      simp -implicitDefEqProofs (disch := omega) only [List.any_cons, List.any_nil, Nat.reduceEqDiff, List.map_cons, List.map_nil, Option.map_some, Option.map_none, List.nil_append, ↓reduceIte, vcu0, vcu1, vcu2, vcu3, vcu4, vcu5, vcu6, vcu7, vcu8, vcu9, vcu10, vcu11, vcu12, vcu13, vcu14, ↓vcd0, ↓vcd1, ↓vcd2] at hc
      obtain ⟨h4, h5, h9, h10, -⟩ := hc
      rcases w3 with ⟨rfl, -⟩ | ⟨gq, rfl, -, -⟩
      all_goals
        simp -implicitDefEqProofs (disch := omega) only [List.any_cons, List.any_nil, Nat.reduceEqDiff, List.map_cons, List.map_nil, Option.map_some, Option.map_none, List.nil_append, ↓reduceIte, vcu0, vcu1, vcu2, vcu3, vcu4, vcu5, vcu6, vcu7, vcu8, vcu9, vcu10, vcu11, vcu12, vcu13, vcu14, ↓vcd0, ↓vcd1, ↓vcd2, h4, h5, h9, h10, h11, List.length_nil]
        refine (hR _ w1''.ints).mono ?_
        rintro r _ ⟨rfl, rfl⟩
        simp -implicitDefEqProofs (disch := omega) only [List.any_cons, List.any_nil, Nat.reduceEqDiff, List.map_cons, List.map_nil, Option.map_some, Option.map_none, List.nil_append, ↓reduceIte, vcu0, vcu1, vcu2, vcu3, vcu4, vcu5, vcu6, vcu7, vcu8, vcu9, vcu10, vcu11, vcu12, vcu13, vcu14, ↓vcd0, ↓vcd1, ↓vcd2, opK_some, h4]
        refine fin_one Try.results10 ?_
        simp -implicitDefEqProofs (disch := omega) only [List.any_cons, List.any_nil, Nat.reduceEqDiff, List.map_cons, List.map_nil, Option.map_some, Option.map_none, List.nil_append, ↓reduceIte, vcu0, vcu1, vcu2, vcu3, vcu4, vcu5, vcu6, vcu7, vcu8, vcu9, vcu10, vcu11, vcu12, vcu13, vcu14, ↓vcd0, ↓vcd1, ↓vcd2]
  · have hI := implOf_at (w0 := w0) τ l rk
    have hS := fun σ => specOf_at (w0 := w0) σ l rk (by omega)
    have hnil : ofV l rk = [] := by unfold ofV; rw [if_neg hOk]
    rw [decide_eq_false hOk, hnil] at hI
    simp only [decide_eq_false hOk, hnil] at hS
    simp -implicitDefEqProofs (disch := omega) only [List.any_cons, List.any_nil, Nat.reduceEqDiff, List.map_cons, List.map_nil, Option.map_some, Option.map_none, List.nil_append, ↓reduceIte, vcu0, vcu1, vcu2, vcu3, vcu4, vcu5, vcu6, vcu7, vcu8, vcu9, vcu10, vcu11, vcu12, vcu13, vcu14, ↓vcd0, ↓vcd1, ↓vcd2, opK_some, List.getElem?_toArray, List.getElem?_cons_zero, List.getElem?_cons_succ]
    refine hI.mono ?_
    rintro _ τ1 ⟨g, rfl, s1, w1⟩
    simp -implicitDefEqProofs (disch := omega) only [List.any_cons, List.any_nil, Nat.reduceEqDiff, List.map_cons, List.map_nil, Option.map_some, Option.map_none, List.nil_append, ↓reduceIte, vcu0, vcu1, vcu2, vcu3, vcu4, vcu5, vcu6, vcu7, vcu8, vcu9, vcu10, vcu11, vcu12, vcu13, vcu14, ↓vcd0, ↓vcd1, ↓vcd2, opK_some, List.getElem?_toArray, List.getElem?_cons_zero, List.getElem?_cons_succ]
    refine (hS τ1).mono ?_
    rintro _ τ2 ⟨g2, rfl, s2, w2⟩
    simp -implicitDefEqProofs (disch := omega) only [List.any_cons, List.any_nil, Nat.reduceEqDiff, List.map_cons, List.map_nil, Option.map_some, Option.map_none, List.nil_append, ↓reduceIte, vcu0, vcu1, vcu2, vcu3, vcu4, vcu5, vcu6, vcu7, vcu8, vcu9, vcu10, vcu11, vcu12, vcu13, vcu14, ↓vcd0, ↓vcd1, ↓vcd2, opK_some, List.getElem?_toArray, List.getElem?_cons_zero, List.getElem?_cons_succ]
    have w1' := w1.sub s2
    refine (same_calls τ2 _ _ [] [] w1'.ints w2.ints (by simp) (by simp)).mono ?_
    rintro r _ ⟨rfl, rfl⟩
    rcases w1' with ⟨rfl, -⟩ | ⟨g', rfl, -, -⟩
    all_goals
      simp -implicitDefEqProofs (disch := omega) only [List.any_cons, List.any_nil, Nat.reduceEqDiff, List.map_cons, List.map_nil, Option.map_some, Option.map_none, List.nil_append, ↓reduceIte, vcu0, vcu1, vcu2, vcu3, vcu4, vcu5, vcu6, vcu7, vcu8, vcu9, vcu10, vcu11, vcu12, vcu13, vcu14, ↓vcd0, ↓vcd1, ↓vcd2, opK_some, decide_true, beq_self_eq_true, Bool.not_true, List.length_nil]
      refine (alive_at _).mono ?_
      rintro r _ ⟨rfl, rfl⟩
      simp -implicitDefEqProofs (disch := omega) only [List.any_cons, List.any_nil, Nat.reduceEqDiff, List.map_cons, List.map_nil, Option.map_some, Option.map_none, List.nil_append, ↓reduceIte, vcu0, vcu1, vcu2, vcu3, vcu4, vcu5, vcu6, vcu7, vcu8, vcu9, vcu10, vcu11, vcu12, vcu13, vcu14, ↓vcd0, ↓vcd1, ↓vcd2, opK_some]
      refine fin_one Try.results10 ?_
      simp -implicitDefEqProofs (disch := omega) only [List.any_cons, List.any_nil, Nat.reduceEqDiff, List.map_cons, List.map_nil, Option.map_some, Option.map_none, List.nil_append, ↓reduceIte, vcu0, vcu1, vcu2, vcu3, vcu4, vcu5, vcu6, vcu7, vcu8, vcu9, vcu10, vcu11, vcu12, vcu13, vcu14, ↓vcd0, ↓vcd1, ↓vcd2]

open Go.ChangeShapes Go.WideShapes Go.ChangeAt Go.RowKit

set_option maxRecDepth 100000 in
theorem lifted10 (os : Os) (started : os.Started) (H : Type) (enc : TypeId × Value → H) :
    ReturnsInHanded {} Try.checked os 10 .any (Rows.fnPermOfSpec.pre6 enc Try.prog Try.f10 Rows.fnPermOfRow.domain false) (Rows.fnPermOfSpec.post enc Try.prog Try.f10 false true false false) := by
  refine returnsInHanded_of_change (C := Try.checked) own started (by kernel_rfl) Try.func10
    (ChangeSpec.witness6 (enc := enc) (C := Try.checked) false ⟨#[], #[.slice none 0 0], []⟩ 8 (by kernel_rfl) (by kernel_rfl) (by kernel_rfl) (by kernel_rfl)) ?_
  intro W base args ds gs before hval hW _ _
  have hW' := hW
  obtain ⟨p, q, hA, hV, -, -, -⟩ := hW'
  rw [Try.params10] at hA hval
  obtain ⟨v0, vs0, d0, ds0, p0, q0, hargs, rfl, rfl, h0, r0⟩ := trodAll_cons hA
  obtain ⟨rfl, rfl, rfl⟩ := trodAll_nil r0
  obtain ⟨rfl, rfl⟩ := trodVars_none hV
  obtain rfl : args = #[v0] := by cases args; simp_all
  obtain ⟨β0, σ0, a0, zs0, L0, U0, S0, R0, I0, w0, m0⟩ := start_ints Try.underlying22 Try.underlying5 co5 (Start.start W) (hval 0 22 v0 rfl rfl) h0
  refine ((law10 σ0 a0 zs0 (I0) m0 w0).2 β0 W [v0] S0.rel (.cons R0 (.nil _))).mono fun e W' h => ?_
  obtain ⟨β', r, r', σ', -, rfl, hr, hrel, rfl⟩ := h
  cases hr
  exact ⟨_, rfl, law_post laidOut hW rfl rfl (by rw [Try.params10]; intro t ht; simp only [List.mem_cons, List.not_mem_nil, or_false, or_self] at ht; rcases ht with rfl <;> exact ⟨by kernel_rfl, of_decide_eq_true (by kernel_rfl)⟩) rfl Try.underlying4 hrel.below⟩

theorem facts10 : joinedFacts Try.prog 10 Try.f10 Rows.fnPermOfSpec Rows.fnPermOfRow = true := by
  unfold joinedFacts
  rw [mayE, liftsE, makeE]
  kernel_rfl

theorem proved10 : Rows.FnPermOfSaid :=
  OpenClaim.holds_of_wide 10 Try.f10 rfl rfl rfl rfl rfl rfl rfl ⟨rfl, rfl, rfl, rfl, rfl⟩ rfl rfl rfl rfl rfl (by kernel_rfl) Try.func10 facts10 (of_decide_eq_true (by kernel_rfl))
    (by unfold Func.isWrapper; first | (rw [if_pos (by decide +kernel)]; kernel_rfl) | (rw [if_neg (by decide +kernel)]; exact ⟨rfl, rfl⟩))
    (fun os started H enc _ => lifted10 os started H enc)


end Go.Proofs.Ytdgbaglhhhbbhaa

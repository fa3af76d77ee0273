/- Tables of numbers: rows of rows; copies, comparisons; the traffic that is valid. -/
import Derived.Test.YtpcbgdgfdfpapaaFacts
set_option linter.unusedSimpArgs false
set_option linter.unusedVariables false
namespace Go.Proofs.Ytpcbgdgfdfpapaa
open Go Go.Abs Go.RowKit
variable {w0 : World}

theorem in_calls (σ : AHeap) (n lo hi : Int) : ACall Try.prog w0 55 [.int .i64 n, .int .i64 lo, .int .i64 hi] σ fun r σ' => r = .bool (decide (lo ≤ n ∧ n ≤ hi)) ∧ σ' = σ := by
  refine acall_go mixed Try.func55 rfl good55 fun pr => ?_
  by_cases h : lo ≤ n
  · simp -implicitDefEqProofs (disch := omega) only [List.any_cons, List.any_nil, Nat.reduceEqDiff, List.map_cons, List.map_nil, Option.map_some, Option.map_none, List.nil_append, ↓reduceIte, vcu, ↓vcd]
    refine fin_one Try.results55 ⟨?_, rfl⟩
    simp -implicitDefEqProofs (disch := omega) only [List.any_cons, List.any_nil, Nat.reduceEqDiff, List.map_cons, List.map_nil, Option.map_some, Option.map_none, List.nil_append, ↓reduceIte, vcu, ↓vcd]
    simp [h]
  · simp -implicitDefEqProofs (disch := omega) only [List.any_cons, List.any_nil, Nat.reduceEqDiff, List.map_cons, List.map_nil, Option.map_some, Option.map_none, List.nil_append, ↓reduceIte, vcu, ↓vcd]
    refine fin_one Try.results55 ⟨?_, rfl⟩
    simp -implicitDefEqProofs (disch := omega) only [List.any_cons, List.any_nil, Nat.reduceEqDiff, List.map_cons, List.map_nil, Option.map_some, Option.map_none, List.nil_append, ↓reduceIte, vcu, ↓vcd]
    simp [h]

theorem set_at {α : Type} (xs : List α) (d : α) {k n : Nat} (hk : k < xs.length) (hn : n = xs.length) : (xs.take k ++ List.replicate (n - k) d).set k (xs.getD k d) = xs.take (k + 1) ++ List.replicate (n - (k + 1)) d := by
  subst hn
  obtain ⟨m, hm⟩ : ∃ m, xs.length - k = m + 1 := ⟨xs.length - k - 1, by omega⟩
  have e : xs.length - (k + 1) = m := by omega
  rw [hm, e, List.set_append_right _ _ (by simp; omega), List.take_succ_eq_append_getElem hk, List.append_assoc]
  have : k - (xs.take k).length = 0 := by simp; omega
  rw [this]
  simp [List.getD, hk, List.replicate_succ]
theorem toInts_at (σ : AHeap) (h o : Nat) (xs : List Int) (hv : IntsAt .i64 σ h o xs) (hl : xs.length ≤ 1048576) :
    ACall Try.prog w0 71 [.slice (some ⟨h, o, none⟩) xs.length 1] σ fun r σ' => ∃ g, σ g = none ∧ r = .slice (some ⟨g, 0, none⟩) xs.length 1 ∧ Sub σ σ' ∧ σ' g = some ⟨ints .i64 xs, false⟩ := by
  refine acall_go mixed Try.func71 rfl good71 fun pr => ?_
  simp -implicitDefEqProofs (disch := omega) only [List.any_cons, List.any_nil, Nat.reduceEqDiff, List.map_cons, List.map_nil, Option.map_some, Option.map_none, List.nil_append, ↓reduceIte, vcu, ↓vcd]
  refine r_makeI (kx := .i64) (ky := .i64) (l := xs.length) (c := xs.length) el30 (by omega) (by simp -implicitDefEqProofs (disch := omega) only [List.any_cons, List.any_nil, Nat.reduceEqDiff, List.map_cons, List.map_nil, Option.map_some, Option.map_none, List.nil_append, ↓reduceIte, vcu, ↓vcd]) (by simp -implicitDefEqProofs (disch := omega) only [List.any_cons, List.any_nil, Nat.reduceEqDiff, List.map_cons, List.map_nil, Option.map_some, Option.map_none, List.nil_append, ↓reduceIte, vcu, ↓vcd]) (by omega) fun g τ hg hs he => ?_
  simp -implicitDefEqProofs (disch := omega) only [List.any_cons, List.any_nil, Nat.reduceEqDiff, List.map_cons, List.map_nil, Option.map_some, Option.map_none, List.nil_append, ↓reduceIte, vcu, ↓vcd]
  refine vc_loop_c mixed (by kernel_rfl) [0, 3] (fun m a σ' => ∃ k : Nat, m + k = xs.length ∧ a 4 = .int .i64 k ∧ Kept g τ σ' ∧ σ' g = some ⟨ints .i64 (xs.take k ++ List.replicate (xs.length - k) 0), false⟩) xs.length ⟨0, by simp, rfl, Kept.refl _ _, by simpa using he⟩ ?_
  rintro m a σ' hc ⟨k, hk, h4, hkp, hgk⟩
  simp -implicitDefEqProofs (disch := omega) only [List.any_cons, List.any_nil, Nat.reduceEqDiff, List.map_cons, List.map_nil, Option.map_some, Option.map_none, List.nil_append, ↓reduceIte, vcu, ↓vcd] at hc
  obtain ⟨h0, h3, -⟩ := hc
  have hsub := hkp.sub hs hg
  by_cases hlt : k < xs.length
  · have hx := hv.sub hsub k hlt
    simp -implicitDefEqProofs (disch := omega) only [List.any_cons, List.any_nil, Nat.reduceEqDiff, List.map_cons, List.map_nil, Option.map_some, Option.map_none, List.nil_append, ↓reduceIte, vcu, ↓vcd, h0, h3, h4, hx]
    refine r_setI (g := g) (i := 0 + k) (v := xs.getD k 0) (by simp -implicitDefEqProofs (disch := omega) only [List.any_cons, List.any_nil, Nat.reduceEqDiff, List.map_cons, List.map_nil, Option.map_some, Option.map_none, List.nil_append, ↓reduceIte, vcu, ↓vcd, h3]) (by simp -implicitDefEqProofs (disch := omega) only [List.any_cons, List.any_nil, Nat.reduceEqDiff, List.map_cons, List.map_nil, Option.map_some, Option.map_none, List.nil_append, ↓reduceIte, vcu, ↓vcd]) co3 hgk (by simp; omega) fun τ2 k2 e2 => ?_
    rw [Nat.zero_add, set_at xs 0 hlt rfl] at e2
    simp -implicitDefEqProofs (disch := omega) only [List.any_cons, List.any_nil, Nat.reduceEqDiff, List.map_cons, List.map_nil, Option.map_some, Option.map_none, List.nil_append, ↓reduceIte, vcu, ↓vcd, h0, h3, h4]
    exact ⟨⟨trivial, trivial, trivial⟩, m - 1, by omega, k + 1, by omega, by simp, hkp.trans k2, e2⟩
  · simp -implicitDefEqProofs (disch := omega) only [List.any_cons, List.any_nil, Nat.reduceEqDiff, List.map_cons, List.map_nil, Option.map_some, Option.map_none, List.nil_append, ↓reduceIte, vcu, ↓vcd, h0, h3, h4]
    have e2 : k = xs.length := by omega
    subst e2
    refine fin_one Try.results71 ⟨g, hg, ?_, hsub, by simpa using hgk⟩
    simp -implicitDefEqProofs (disch := omega) only [List.any_cons, List.any_nil, Nat.reduceEqDiff, List.map_cons, List.map_nil, Option.map_some, Option.map_none, List.nil_append, ↓reduceIte, vcu, ↓vcd, h3]

theorem eqInts_at (σ : AHeap) (h o g p : Nat) (xs ys : List Int) (hv : IntsAt .i64 σ h o xs) (hu : IntsAt .i64 σ g p ys) (hl : xs.length ≤ 1048576) (hl2 : ys.length ≤ 1048576) :
    ACall Try.prog w0 72 [.slice (some ⟨h, o, none⟩) xs.length 1, .slice (some ⟨g, p, none⟩) ys.length 1] σ fun r σ' => r = .bool (decide (xs = ys)) ∧ σ' = σ := by
  refine acall_go mixed Try.func72 rfl good72 fun pr => ?_
  by_cases hlen : xs.length = ys.length
  · simp -implicitDefEqProofs (disch := omega) only [List.any_cons, List.any_nil, Nat.reduceEqDiff, List.map_cons, List.map_nil, Option.map_some, Option.map_none, List.nil_append, ↓reduceIte, vcu, ↓vcd]
    refine vc_loop_c mixed (by kernel_rfl) [0, 1] (fun m a σ' => ∃ k : Nat, m + k = xs.length ∧ a 5 = .int .i64 k ∧ σ' = σ ∧ ∀ j, j < k → xs.getD j 0 = ys.getD j 0) xs.length ⟨0, by simp, rfl, rfl, by simp⟩ ?_
    rintro m a σ' hc ⟨k, hk, h5, rfl, he⟩
    simp -implicitDefEqProofs (disch := omega) only [List.any_cons, List.any_nil, Nat.reduceEqDiff, List.map_cons, List.map_nil, Option.map_some, Option.map_none, List.nil_append, ↓reduceIte, vcu, ↓vcd] at hc
    obtain ⟨h0, h1, -⟩ := hc
    by_cases hlt : k < xs.length
    · have hx := hv k hlt
      have hy := hu k (by omega)
      by_cases hxy : xs.getD k 0 = ys.getD k 0
      · simp -implicitDefEqProofs (disch := omega) only [List.any_cons, List.any_nil, Nat.reduceEqDiff, List.map_cons, List.map_nil, Option.map_some, Option.map_none, List.nil_append, ↓reduceIte, vcu, ↓vcd, h0, h1, h5, hx, hy]
        refine ⟨⟨trivial, trivial, trivial⟩, m - 1, by omega, k + 1, by omega, by simp, trivial, fun j hj => ?_⟩
        by_cases e : j = k
        · subst e; exact hxy
        · exact he j (by omega)
      · simp -implicitDefEqProofs (disch := omega) only [List.any_cons, List.any_nil, Nat.reduceEqDiff, List.map_cons, List.map_nil, Option.map_some, Option.map_none, List.nil_append, ↓reduceIte, vcu, ↓vcd, h0, h1, h5, hx, hy]
        refine fin_one Try.results72 ⟨?_, rfl⟩
        simp -implicitDefEqProofs (disch := omega) only [List.any_cons, List.any_nil, Nat.reduceEqDiff, List.map_cons, List.map_nil, Option.map_some, Option.map_none, List.nil_append, ↓reduceIte, vcu, ↓vcd]
        have : xs ≠ ys := fun e => hxy (by rw [e])
        simp [this]
    · simp -implicitDefEqProofs (disch := omega) only [List.any_cons, List.any_nil, Nat.reduceEqDiff, List.map_cons, List.map_nil, Option.map_some, Option.map_none, List.nil_append, ↓reduceIte, vcu, ↓vcd, h0, h1, h5]
      refine fin_one Try.results72 ⟨?_, rfl⟩
      simp -implicitDefEqProofs (disch := omega) only [List.any_cons, List.any_nil, Nat.reduceEqDiff, List.map_cons, List.map_nil, Option.map_some, Option.map_none, List.nil_append, ↓reduceIte, vcu, ↓vcd]
      have : xs = ys := by
        apply List.ext_getElem hlen
        intro i h1 h2
        have := he i (by omega)
        simpa [List.getD, h1, h2] using this
      simp [this]
  · simp -implicitDefEqProofs (disch := omega) only [List.any_cons, List.any_nil, Nat.reduceEqDiff, List.map_cons, List.map_nil, Option.map_some, Option.map_none, List.nil_append, ↓reduceIte, vcu, ↓vcd]
    refine fin_one Try.results72 ⟨?_, rfl⟩
    simp -implicitDefEqProofs (disch := omega) only [List.any_cons, List.any_nil, Nat.reduceEqDiff, List.map_cons, List.map_nil, Option.map_some, Option.map_none, List.nil_append, ↓reduceIte, vcu, ↓vcd]
    have : xs ≠ ys := fun e => hlen (by rw [e])
    simp [this]
theorem eqInts_calls (σ : AHeap) (v u : Value) (xs ys : List Int) (hv : Ints .i64 σ v xs) (hu : Ints .i64 σ u ys) (hl : xs.length ≤ 1048576) (hl2 : ys.length ≤ 1048576) :
    ACall Try.prog w0 72 [v, u] σ fun r σ' => r = .bool (decide (xs = ys)) ∧ σ' = σ :=
  ACall.ints_quiet (pre := []) (post := [u]) (by kernel_rfl) hv fun σ1 h o hs hg =>
    ACall.ints_quiet (pre := [_]) (post := []) (by kernel_rfl) (hu.sub hs) fun σ2 g p hs2 hg2 => eqInts_at σ2 h o g p xs ys (hg.sub hs2) hg2 hl hl2


/-- rows, each nil or at a handle -/
def RowsAt (σ : AHeap) (h o : Nat) (rows : List (List Int)) : Prop := ∀ i, i < rows.length → ∃ v, ld σ h (o + i) = some v ∧ Ints .i64 σ v (rows.getD i [])
theorem ints_sub' {σ τ : AHeap} {v : Value} {xs : List Int} (h : Ints .i64 σ v xs) (hs : Sub σ τ) : Ints .i64 τ v xs := h.sub hs
theorem RowsAt.sub {σ τ : AHeap} {h o : Nat} {rows : List (List Int)} (hv : RowsAt σ h o rows) (hs : Sub σ τ) : RowsAt τ h o rows := fun i hi => by
  obtain ⟨v, a, b⟩ := hv i hi
  refine ⟨v, ?_, b.sub hs⟩
  unfold ld at a ⊢
  cases e : σ h with
  | none => rw [e] at a; cases a
  | some ob => rw [e] at a; rw [hs _ _ e]; exact a
def RowOk (n : Nat) (row : List Int) : Prop := row.length = n ∧ ∀ j, j < row.length → 0 ≤ row.getD j 0 ∧ row.getD j 0 ≤ 6
def TV (rows : List (List Int)) : Prop := rows.length ≤ 6 ∧ ∀ i, i < rows.length → RowOk rows.length (rows.getD i [])
instance (n : Nat) (row : List Int) : Decidable (RowOk n row) := by unfold RowOk; infer_instance
instance (rows : List (List Int)) : Decidable (TV rows) := by unfold TV; infer_instance

theorem implTV_at (σ : AHeap) (h o : Nat) (rows : List (List Int)) (hv : RowsAt σ h o rows) (hl : rows.length ≤ 1048576) :
    ACall Try.prog w0 52 [.slice (some ⟨h, o, none⟩) rows.length 1] σ fun r σ' => r = .bool (decide (TV rows)) ∧ σ' = σ := by
  refine acall_go mixed Try.func52 rfl good52 fun pr => ?_
  by_cases h6 : 6 < rows.length
  · simp -implicitDefEqProofs (disch := omega) only [List.any_cons, List.any_nil, Nat.reduceEqDiff, List.map_cons, List.map_nil, Option.map_some, Option.map_none, List.nil_append, ↓reduceIte, vcu, ↓vcd]
    refine fin_one Try.results52 ⟨?_, rfl⟩
    simp -implicitDefEqProofs (disch := omega) only [List.any_cons, List.any_nil, Nat.reduceEqDiff, List.map_cons, List.map_nil, Option.map_some, Option.map_none, List.nil_append, ↓reduceIte, vcu, ↓vcd]
    rw [decide_eq_false (fun hT : TV rows => by have := hT.1; omega)]
  simp -implicitDefEqProofs (disch := omega) only [List.any_cons, List.any_nil, Nat.reduceEqDiff, List.map_cons, List.map_nil, Option.map_some, Option.map_none, List.nil_append, ↓reduceIte, vcu, ↓vcd]
  refine vc_loop_c mixed (by kernel_rfl) [0, 10, 11] (fun m a σ' => ∃ k : Nat, m + k = rows.length ∧ a 12 = .int .i64 k ∧ σ' = σ ∧ ∀ i, i < k → RowOk rows.length (rows.getD i [])) rows.length ⟨0, by simp, rfl, rfl, by simp⟩ ?_
  rintro m a σ' hc ⟨k, hk, h12, rfl, hok⟩
  simp -implicitDefEqProofs (disch := omega) only [List.any_cons, List.any_nil, Nat.reduceEqDiff, List.map_cons, List.map_nil, Option.map_some, Option.map_none, List.nil_append, ↓reduceIte, vcu, ↓vcd] at hc
  obtain ⟨h0, h10, h11, -⟩ := hc
  by_cases hlt : k < rows.length
  · obtain ⟨v, hx, hi⟩ := hv k hlt
    have no : ¬ RowOk rows.length (rows.getD k []) → decide (TV rows) = false := fun hn => decide_eq_false (fun hT => hn (hT.2 k hlt))
    generalize hrow : rows.getD k [] = row at hi no
    rcases hi with ⟨rfl, rfl⟩ | ⟨g, p, rfl, hg⟩
    · simp -implicitDefEqProofs (disch := omega) only [List.any_cons, List.any_nil, Nat.reduceEqDiff, List.map_cons, List.map_nil, Option.map_some, Option.map_none, List.nil_append, ↓reduceIte, vcu, ↓vcd, h0, h10, h11, h12, hx]
      refine fin_one Try.results52 ⟨?_, rfl⟩
      simp -implicitDefEqProofs (disch := omega) only [List.any_cons, List.any_nil, Nat.reduceEqDiff, List.map_cons, List.map_nil, Option.map_some, Option.map_none, List.nil_append, ↓reduceIte, vcu, ↓vcd]
      rw [no (fun hr => by have := hr.1; simp at this; omega)]
    · by_cases hlen : row.length = rows.length
      · simp -implicitDefEqProofs (disch := omega) only [List.any_cons, List.any_nil, Nat.reduceEqDiff, List.map_cons, List.map_nil, Option.map_some, Option.map_none, List.nil_append, ↓reduceIte, vcu, ↓vcd, h0, h10, h11, h12, hx, hlen]
        refine vc_loop_c mixed (by kernel_rfl) [0, 10, 11, 12, 21, 22] (fun m2 a2 σ2 => ∃ j : Nat, m2 + j = row.length ∧ a2 23 = .int .i64 j ∧ σ2 = σ' ∧ ∀ i, i < j → 0 ≤ row.getD i 0 ∧ row.getD i 0 ≤ 6) row.length ⟨0, by simp, rfl, rfl, by simp⟩ ?_
        rintro m2 a2 σ2 hc2 ⟨j, hj, h23, rfl, hjo⟩
        simp -implicitDefEqProofs (disch := omega) only [List.any_cons, List.any_nil, Nat.reduceEqDiff, List.map_cons, List.map_nil, Option.map_some, Option.map_none, List.nil_append, ↓reduceIte, vcu, ↓vcd, h0, h10, h11, h12] at hc2
        obtain ⟨c0, c10, c11, c12, c21, c22, -⟩ := hc2
        by_cases hjl : j < rows.length
        · have hy := hg j (by omega)
          by_cases hlo : row.getD j 0 < 0
          · simp -implicitDefEqProofs (disch := omega) only [List.any_cons, List.any_nil, Nat.reduceEqDiff, List.map_cons, List.map_nil, Option.map_some, Option.map_none, List.nil_append, ↓reduceIte, vcu, ↓vcd, c0, c10, c11, c12, c21, c22, h23, hy]
            refine fin_one Try.results52 ⟨?_, rfl⟩
            simp -implicitDefEqProofs (disch := omega) only [List.any_cons, List.any_nil, Nat.reduceEqDiff, List.map_cons, List.map_nil, Option.map_some, Option.map_none, List.nil_append, ↓reduceIte, vcu, ↓vcd]
            rw [no (fun hr => by have := (hr.2 j (by omega)).1; omega)]
          · by_cases hhi : 6 < row.getD j 0
            · simp -implicitDefEqProofs (disch := omega) only [List.any_cons, List.any_nil, Nat.reduceEqDiff, List.map_cons, List.map_nil, Option.map_some, Option.map_none, List.nil_append, ↓reduceIte, vcu, ↓vcd, c0, c10, c11, c12, c21, c22, h23, hy]
              refine fin_one Try.results52 ⟨?_, rfl⟩
              simp -implicitDefEqProofs (disch := omega) only [List.any_cons, List.any_nil, Nat.reduceEqDiff, List.map_cons, List.map_nil, Option.map_some, Option.map_none, List.nil_append, ↓reduceIte, vcu, ↓vcd]
              rw [no (fun hr => by have := (hr.2 j (by omega)).2; omega)]
            · simp -implicitDefEqProofs (disch := omega) only [List.any_cons, List.any_nil, Nat.reduceEqDiff, List.map_cons, List.map_nil, Option.map_some, Option.map_none, List.nil_append, ↓reduceIte, vcu, ↓vcd, c0, c10, c11, c12, c21, c22, h23, hy]
              refine ⟨?_, m2 - 1, by omega, j + 1, by omega, by simp, trivial, fun i hi => ?_⟩
              · simp [c0, c10, c11, c12, c21, c22, h0, h10, h11, h12]
              · by_cases e : i = j
                · subst e; omega
                · exact hjo i (by omega)
        · simp -implicitDefEqProofs (disch := omega) only [List.any_cons, List.any_nil, Nat.reduceEqDiff, List.map_cons, List.map_nil, Option.map_some, Option.map_none, List.nil_append, ↓reduceIte, vcu, ↓vcd, c0, c10, c11, c12, c21, c22, h23]
          refine ⟨?_, m - 1, by omega, k + 1, by omega, by simp, trivial, fun i hi => ?_⟩
          · simp [c0, c10, c11, c12, h0, h10, h11]
          · by_cases e : i = k
            · subst e; rw [hrow]; exact ⟨hlen, fun j' hj' => hjo j' (by omega)⟩
            · exact hok i (by omega)
      · simp -implicitDefEqProofs (disch := omega) only [List.any_cons, List.any_nil, Nat.reduceEqDiff, List.map_cons, List.map_nil, Option.map_some, Option.map_none, List.nil_append, ↓reduceIte, vcu, ↓vcd, h0, h10, h11, h12, hx]
        refine fin_one Try.results52 ⟨?_, rfl⟩
        simp -implicitDefEqProofs (disch := omega) only [List.any_cons, List.any_nil, Nat.reduceEqDiff, List.map_cons, List.map_nil, Option.map_some, Option.map_none, List.nil_append, ↓reduceIte, vcu, ↓vcd]
        rw [no (fun hr => hlen hr.1)]
  · simp -implicitDefEqProofs (disch := omega) only [List.any_cons, List.any_nil, Nat.reduceEqDiff, List.map_cons, List.map_nil, Option.map_some, Option.map_none, List.nil_append, ↓reduceIte, vcu, ↓vcd, h0, h10, h11, h12]
    refine fin_one Try.results52 ⟨?_, rfl⟩
    simp -implicitDefEqProofs (disch := omega) only [List.any_cons, List.any_nil, Nat.reduceEqDiff, List.map_cons, List.map_nil, Option.map_some, Option.map_none, List.nil_append, ↓reduceIte, vcu, ↓vcd]
    rw [decide_eq_true (show TV rows from ⟨by omega, fun i hi => hok i (by omega)⟩)]
end Go.Proofs.Ytpcbgdgfdfpapaa

namespace Go.Proofs.Ytpcbgdgfdfpapaa
open Go Go.Abs Go.RowKit
variable {w0 : World}

theorem specTV_at (σ : AHeap) (h o : Nat) (rows : List (List Int)) (hv : RowsAt σ h o rows) (hl : rows.length ≤ 1048576) :
    ACall Try.prog w0 29 [.slice (some ⟨h, o, none⟩) rows.length 1] σ fun r σ' => r = .bool (decide (TV rows)) ∧ σ' = σ := by
  refine acall_go mixed Try.func29 rfl good29 fun pr => ?_
  simp -implicitDefEqProofs (disch := omega) only [List.any_cons, List.any_nil, Nat.reduceEqDiff, List.map_cons, List.map_nil, Option.map_some, Option.map_none, List.nil_append, ↓reduceIte, vcu, ↓vcd]
  refine vc_loop_c mixed (by kernel_rfl) [0] (fun m a σ' => ∃ k : Nat, m + k = rows.length ∧ a 3 = .int .i64 k ∧ σ' = σ ∧ ∀ i, i < k → RowOk rows.length (rows.getD i [])) rows.length ⟨0, by simp, rfl, rfl, by simp⟩ ?_
  rintro m a σ' hc ⟨k, hk, h3, rfl, hok⟩
  simp -implicitDefEqProofs (disch := omega) only [List.any_cons, List.any_nil, Nat.reduceEqDiff, List.map_cons, List.map_nil, Option.map_some, Option.map_none, List.nil_append, ↓reduceIte, vcu, ↓vcd] at hc
  obtain ⟨h0, -⟩ := hc
  by_cases hlt : k < rows.length
  · obtain ⟨v, hx, hi⟩ := hv k hlt
    have no : ¬ RowOk rows.length (rows.getD k []) → decide (TV rows) = false := fun hn => decide_eq_false (fun hT => hn (hT.2 k hlt))
    generalize hrow : rows.getD k [] = row at hi no
    rcases hi with ⟨rfl, rfl⟩ | ⟨g, p, rfl, hg⟩
    · simp -implicitDefEqProofs (disch := omega) only [List.any_cons, List.any_nil, Nat.reduceEqDiff, List.map_cons, List.map_nil, Option.map_some, Option.map_none, List.nil_append, ↓reduceIte, vcu, ↓vcd, h0, h3, hx]
      refine fin_one Try.results29 ⟨?_, rfl⟩
      simp -implicitDefEqProofs (disch := omega) only [List.any_cons, List.any_nil, Nat.reduceEqDiff, List.map_cons, List.map_nil, Option.map_some, Option.map_none, List.nil_append, ↓reduceIte, vcu, ↓vcd]
      rw [no (fun hr => by have := hr.1; simp at this; omega)]
    · by_cases hlen : row.length = rows.length
      · simp -implicitDefEqProofs (disch := omega) only [List.any_cons, List.any_nil, Nat.reduceEqDiff, List.map_cons, List.map_nil, Option.map_some, Option.map_none, List.nil_append, ↓reduceIte, vcu, ↓vcd, h0, h3, hx, hlen]
        refine vc_loop_c mixed (by kernel_rfl) [0, 3] (fun m2 a2 σ2 => ∃ j : Nat, m2 + j = row.length ∧ a2 4 = .int .i64 j ∧ σ2 = σ' ∧ ∀ i, i < j → 0 ≤ row.getD i 0 ∧ row.getD i 0 ≤ 6) row.length ⟨0, by simp, rfl, rfl, by simp⟩ ?_
        rintro m2 a2 σ2 hc2 ⟨j, hj, h4, rfl, hjo⟩
        simp -implicitDefEqProofs (disch := omega) only [List.any_cons, List.any_nil, Nat.reduceEqDiff, List.map_cons, List.map_nil, Option.map_some, Option.map_none, List.nil_append, ↓reduceIte, vcu, ↓vcd, h0, h3] at hc2
        obtain ⟨c0, c3, -⟩ := hc2
        by_cases hjl : j < row.length
        · have hy := hg j (by omega)
          simp -implicitDefEqProofs (disch := omega) only [List.any_cons, List.any_nil, Nat.reduceEqDiff, List.map_cons, List.map_nil, Option.map_some, Option.map_none, List.nil_append, ↓reduceIte, vcu, ↓vcd, c0, c3, h4, hx, hy]
          refine (in_calls _ (row.getD j 0) 0 6).mono ?_
          rintro r _ ⟨rfl, rfl⟩
          by_cases hin : 0 ≤ row.getD j 0 ∧ row.getD j 0 ≤ 6
          · rw [decide_eq_true hin]
            simp -implicitDefEqProofs (disch := omega) only [List.any_cons, List.any_nil, Nat.reduceEqDiff, List.map_cons, List.map_nil, Option.map_some, Option.map_none, List.nil_append, ↓reduceIte, vcu, ↓vcd, opK_some, c0, c3, h4]
            refine ⟨?_, m2 - 1, by omega, j + 1, by omega, by simp, trivial, fun i hi => ?_⟩
            · first | trivial | simp [c0, c3, h0, h3]
            · by_cases e : i = j
              · subst e; exact hin
              · exact hjo i (by omega)
          · rw [decide_eq_false hin]
            simp -implicitDefEqProofs (disch := omega) only [List.any_cons, List.any_nil, Nat.reduceEqDiff, List.map_cons, List.map_nil, Option.map_some, Option.map_none, List.nil_append, ↓reduceIte, vcu, ↓vcd, opK_some, c0, c3, h4]
            refine fin_one Try.results29 ⟨?_, rfl⟩
            simp -implicitDefEqProofs (disch := omega) only [List.any_cons, List.any_nil, Nat.reduceEqDiff, List.map_cons, List.map_nil, Option.map_some, Option.map_none, List.nil_append, ↓reduceIte, vcu, ↓vcd]
            rw [no (fun hr => hin (hr.2 j hjl))]
        · simp -implicitDefEqProofs (disch := omega) only [List.any_cons, List.any_nil, Nat.reduceEqDiff, List.map_cons, List.map_nil, Option.map_some, Option.map_none, List.nil_append, ↓reduceIte, vcu, ↓vcd, c0, c3, h4, hx]
          refine ⟨?_, m - 1, by omega, k + 1, by omega, by simp, trivial, fun i hi => ?_⟩
          · first | trivial | simp [c0, c3, h0, h3]
          · by_cases e : i = k
            · subst e; rw [hrow]; exact ⟨hlen, fun j' hj' => hjo j' (by omega)⟩
            · exact hok i (by omega)
      · simp -implicitDefEqProofs (disch := omega) only [List.any_cons, List.any_nil, Nat.reduceEqDiff, List.map_cons, List.map_nil, Option.map_some, Option.map_none, List.nil_append, ↓reduceIte, vcu, ↓vcd, h0, h3, hx]
        refine fin_one Try.results29 ⟨?_, rfl⟩
        simp -implicitDefEqProofs (disch := omega) only [List.any_cons, List.any_nil, Nat.reduceEqDiff, List.map_cons, List.map_nil, Option.map_some, Option.map_none, List.nil_append, ↓reduceIte, vcu, ↓vcd]
        rw [no (fun hr => hlen hr.1)]
  · simp -implicitDefEqProofs (disch := omega) only [List.any_cons, List.any_nil, Nat.reduceEqDiff, List.map_cons, List.map_nil, Option.map_some, Option.map_none, List.nil_append, ↓reduceIte, vcu, ↓vcd, h0, h3]
    refine fin_one Try.results29 ⟨?_, rfl⟩
    simp -implicitDefEqProofs (disch := omega) only [List.any_cons, List.any_nil, Nat.reduceEqDiff, List.map_cons, List.map_nil, Option.map_some, Option.map_none, List.nil_append, ↓reduceIte, vcu, ↓vcd]
    have e : decide (TV rows) = decide ((rows.length : Int) ≤ 6) := by
      apply decide_eq_decide.2
      exact ⟨fun hT => by have := hT.1; omega, fun hT => ⟨by omega, fun i hi => hok i (by omega)⟩⟩
    rw [e]

theorem szInts_calls (σ : AHeap) (v : Value) (xs : List Int) (n : Int) (hv : Ints .i64 σ v xs) (hn : 0 ≤ n ∧ n ≤ 1048576) (hm : xs.length ≤ maxLen) :
    ACall Try.prog w0 70 [v, .int .i64 n] σ fun r σ' => r = .int .i64 (if n < xs.length then -1 else n - xs.length) ∧ σ' = σ := by
  refine ACall.ints_quiet (pre := []) (post := [.int .i64 n]) (by kernel_rfl) hv fun σ1 h o _ hg => ?_
  unfold maxLen at hm
  refine acall_go mixed Try.func70 rfl good70 fun pr => ?_
  by_cases h1 : n < xs.length
  · simp -implicitDefEqProofs (disch := omega) only [List.any_cons, List.any_nil, Nat.reduceEqDiff, List.map_cons, List.map_nil, Option.map_some, Option.map_none, List.nil_append, ↓reduceIte, vcu, ↓vcd]
    refine fin_one Try.results70 ⟨?_, rfl⟩
    simp -implicitDefEqProofs (disch := omega) only [List.any_cons, List.any_nil, Nat.reduceEqDiff, List.map_cons, List.map_nil, Option.map_some, Option.map_none, List.nil_append, ↓reduceIte, vcu, ↓vcd]
    rw [if_pos h1]
  · simp -implicitDefEqProofs (disch := omega) only [List.any_cons, List.any_nil, Nat.reduceEqDiff, List.map_cons, List.map_nil, Option.map_some, Option.map_none, List.nil_append, ↓reduceIte, vcu, ↓vcd]
    refine fin_one Try.results70 ⟨?_, rfl⟩
    simp -implicitDefEqProofs (disch := omega) only [List.any_cons, List.any_nil, Nat.reduceEqDiff, List.map_cons, List.map_nil, Option.map_some, Option.map_none, List.nil_append, ↓reduceIte, vcu, ↓vcd]
    rw [if_neg h1]

/-- what is left of a number of cells -/
theorem szRows_at (σ : AHeap) (h o : Nat) (rows : List (List Int)) (n : Int) (hv : RowsAt σ h o rows) (hn : 0 ≤ n ∧ n ≤ 1048576) (hm : rows.length ≤ maxLen) (hr : ∀ i, i < rows.length → (rows.getD i []).length ≤ maxLen) :
    ACall Try.prog w0 45 [.slice (some ⟨h, o, none⟩) rows.length 1, .int .i64 n] σ fun r σ' => ∃ z : Int, r = .int .i64 z ∧ σ' = σ ∧ z ≤ n ∧ -1 ≤ z ∧ (0 ≤ z → rows.length ≤ 1048576 ∧ ∀ i, i < rows.length → (rows.getD i []).length ≤ 1048576) := by
  have hm' := hm
  unfold maxLen at hm'
  refine acall_go mixed Try.func45 rfl good45 fun pr => ?_
  by_cases h1 : n < rows.length
  · simp -implicitDefEqProofs (disch := omega) only [List.any_cons, List.any_nil, Nat.reduceEqDiff, List.map_cons, List.map_nil, Option.map_some, Option.map_none, List.nil_append, ↓reduceIte, vcu, ↓vcd]
    refine fin_one Try.results45 ⟨-1, ?_, rfl, by omega, by omega, fun h => absurd h (by omega)⟩
    simp -implicitDefEqProofs (disch := omega) only [List.any_cons, List.any_nil, Nat.reduceEqDiff, List.map_cons, List.map_nil, Option.map_some, Option.map_none, List.nil_append, ↓reduceIte, vcu, ↓vcd]
  simp -implicitDefEqProofs (disch := omega) only [List.any_cons, List.any_nil, Nat.reduceEqDiff, List.map_cons, List.map_nil, Option.map_some, Option.map_none, List.nil_append, ↓reduceIte, vcu, ↓vcd]
  refine vc_loop_c mixed (by kernel_rfl) [0] (fun m a σ' => ∃ (k : Nat) (z : Int), m + k = rows.length ∧ a 5 = .int .i64 k ∧ a 1 = .int .i64 z ∧ 0 ≤ z ∧ z ≤ n ∧ σ' = σ ∧ ∀ i, i < k → (rows.getD i []).length ≤ 1048576) rows.length ⟨0, n - rows.length, by simp, rfl, by simp [fset, aenter], by omega, by omega, rfl, by simp⟩ ?_
  rintro m a σ' hc ⟨k, z, hk, h5, hz, hz0, hzn, rfl, hok⟩
  simp -implicitDefEqProofs (disch := omega) only [List.any_cons, List.any_nil, Nat.reduceEqDiff, List.map_cons, List.map_nil, Option.map_some, Option.map_none, List.nil_append, ↓reduceIte, vcu, ↓vcd] at hc
  obtain ⟨h0, -⟩ := hc
  by_cases hlt : k < rows.length
  · obtain ⟨v, hx, hi⟩ := hv k hlt
    have hrk := hr k hlt
    simp -implicitDefEqProofs (disch := omega) only [List.any_cons, List.any_nil, Nat.reduceEqDiff, List.map_cons, List.map_nil, Option.map_some, Option.map_none, List.nil_append, ↓reduceIte, vcu, ↓vcd, h0, h5, hz, hx]
    refine (szInts_calls σ' v _ z hi (by omega) hrk).mono ?_
    rintro r _ ⟨rfl, rfl⟩
    unfold maxLen at hrk
    by_cases h2 : z < (rows.getD k []).length
    · rw [if_pos h2]
      simp -implicitDefEqProofs (disch := omega) only [List.any_cons, List.any_nil, Nat.reduceEqDiff, List.map_cons, List.map_nil, Option.map_some, Option.map_none, List.nil_append, ↓reduceIte, vcu, ↓vcd, opK_some]
      refine fin_one Try.results45 ⟨-1, ?_, rfl, by omega, by omega, fun h => absurd h (by omega)⟩
      simp -implicitDefEqProofs (disch := omega) only [List.any_cons, List.any_nil, Nat.reduceEqDiff, List.map_cons, List.map_nil, Option.map_some, Option.map_none, List.nil_append, ↓reduceIte, vcu, ↓vcd]
    · rw [if_neg h2]
      simp -implicitDefEqProofs (disch := omega) only [List.any_cons, List.any_nil, Nat.reduceEqDiff, List.map_cons, List.map_nil, Option.map_some, Option.map_none, List.nil_append, ↓reduceIte, vcu, ↓vcd, opK_some, h0, h5]
      refine ⟨?_, m - 1, by omega, k + 1, z - ((rows.getD k []).length : Int), by omega, by simp, rfl, by omega, by omega, trivial, fun i hi => ?_⟩
      · first | trivial | simp [h0]
      · by_cases e : i = k
        · subst e; omega
        · exact hok i (by omega)
  · simp -implicitDefEqProofs (disch := omega) only [List.any_cons, List.any_nil, Nat.reduceEqDiff, List.map_cons, List.map_nil, Option.map_some, Option.map_none, List.nil_append, ↓reduceIte, vcu, ↓vcd, h0, h5]
    refine fin_one Try.results45 ⟨z, ?_, rfl, by omega, by omega, fun _ => ⟨by omega, fun i hi => hok i (by omega)⟩⟩
    simp -implicitDefEqProofs (disch := omega) only [List.any_cons, List.any_nil, Nat.reduceEqDiff, List.map_cons, List.map_nil, Option.map_some, Option.map_none, List.nil_append, ↓reduceIte, vcu, ↓vcd, hz]

theorem eqRows_at (σ : AHeap) (h o g p : Nat) (xs ys : List (List Int)) (hv : RowsAt σ h o xs) (hu : RowsAt σ g p ys) (hl : xs.length ≤ 1048576) (hxy : xs = ys) (hr : ∀ i, i < xs.length → (xs.getD i []).length ≤ 1048576) :
    ACall Try.prog w0 47 [.slice (some ⟨h, o, none⟩) xs.length 1, .slice (some ⟨g, p, none⟩) ys.length 1] σ fun r σ' => r = .bool true ∧ σ' = σ := by
  subst hxy
  refine acall_go mixed Try.func47 rfl good47 fun pr => ?_
  simp -implicitDefEqProofs (disch := omega) only [List.any_cons, List.any_nil, Nat.reduceEqDiff, List.map_cons, List.map_nil, Option.map_some, Option.map_none, List.nil_append, ↓reduceIte, vcu, ↓vcd]
  refine vc_loop_c mixed (by kernel_rfl) [0, 1] (fun m a σ' => ∃ k : Nat, m + k = xs.length ∧ a 5 = .int .i64 k ∧ σ' = σ) xs.length ⟨0, by simp, rfl, rfl⟩ ?_
  rintro m a σ' hc ⟨k, hk, h5, rfl⟩
  simp -implicitDefEqProofs (disch := omega) only [List.any_cons, List.any_nil, Nat.reduceEqDiff, List.map_cons, List.map_nil, Option.map_some, Option.map_none, List.nil_append, ↓reduceIte, vcu, ↓vcd] at hc
  obtain ⟨h0, h1, -⟩ := hc
  by_cases hlt : k < xs.length
  · obtain ⟨v, hx, hi⟩ := hv k hlt
    obtain ⟨u, hy, hj⟩ := hu k hlt
    simp -implicitDefEqProofs (disch := omega) only [List.any_cons, List.any_nil, Nat.reduceEqDiff, List.map_cons, List.map_nil, Option.map_some, Option.map_none, List.nil_append, ↓reduceIte, vcu, ↓vcd, h0, h1, h5, hx, hy]
    rw [r_callq]
    refine ⟨_, eqInts_calls σ' v u _ _ hi hj (hr k hlt) (hr k hlt), ?_⟩
    simp -implicitDefEqProofs (disch := omega) only [List.any_cons, List.any_nil, Nat.reduceEqDiff, List.map_cons, List.map_nil, Option.map_some, Option.map_none, List.nil_append, ↓reduceIte, vcu, ↓vcd, h0, h1, h5, decide_true]
    exact ⟨⟨trivial, trivial, trivial⟩, m - 1, by omega, k + 1, by omega, by simp, trivial⟩
  · simp -implicitDefEqProofs (disch := omega) only [List.any_cons, List.any_nil, Nat.reduceEqDiff, List.map_cons, List.map_nil, Option.map_some, Option.map_none, List.nil_append, ↓reduceIte, vcu, ↓vcd, h0, h1, h5]
    refine fin_one Try.results47 ⟨?_, rfl⟩
    simp -implicitDefEqProofs (disch := omega) only [List.any_cons, List.any_nil, Nat.reduceEqDiff, List.map_cons, List.map_nil, Option.map_some, Option.map_none, List.nil_append, ↓reduceIte, vcu, ↓vcd]
end Go.Proofs.Ytpcbgdgfdfpapaa

namespace Go.Proofs.Ytpcbgdgfdfpapaa
open Go Go.Abs Go.RowKit
variable {w0 : World}

/-- nil, or rows at a handle -/
def RowsV (σ : AHeap) (v : Value) (rows : List (List Int)) : Prop := (v = .slice none 0 0 ∧ rows = []) ∨ ∃ h o, v = .slice (some ⟨h, o, none⟩) rows.length 1 ∧ RowsAt σ h o rows
theorem RowsV.sub {σ τ : AHeap} {v : Value} {rows : List (List Int)} (hv : RowsV σ v rows) (hs : Sub σ τ) : RowsV τ v rows := hv.imp id fun ⟨h, o, e, hh⟩ => ⟨h, o, e, hh.sub hs⟩
theorem layL_rows {σ : AHeap} : ∀ {ds : List Dat} {cs : List Value}, LayL σ (.slc (.int .i64)) ds cs → ∃ zs : List (List Int), ds.length = zs.length ∧ (∀ i, i < zs.length → ∃ v, cs[i]? = some v ∧ Ints .i64 σ v (zs.getD i [])) ∧ (∀ row ∈ zs, row.length ≤ maxLen ∧ ∀ z ∈ row, (Lit.int .i64 z).wf = true)
  | _, _, .nil => ⟨[], rfl, by simp, by simp⟩
  | _, _, .cons (cs := cs) h hh => by
    have hl := Lay.len h
    obtain ⟨v, rfl⟩ : ∃ v, cs = [v] := List.length_eq_one_iff.1 hl
    obtain ⟨z, h1, h2, h3⟩ := lay_ints h
    obtain ⟨zs, e1, e2, e3⟩ := layL_rows hh
    refine ⟨z :: zs, by simp [e1], fun i hi => ?_, fun row hr => ?_⟩
    · cases i with
      | zero => exact ⟨v, rfl, h1⟩
      | succ i => exact e2 i (by simpa using hi)
    · rcases List.mem_cons.1 hr with rfl | hr
      · exact ⟨h3, h2⟩
      · exact e3 row hr
theorem lay_rows {σ : AHeap} {d : Dat} {v : Value} (h : Lay σ (.slc (.slc (.int .i64))) d [v]) : ∃ zs : List (List Int), RowsV σ v zs ∧ (∀ row ∈ zs, row.length ≤ maxLen ∧ ∀ z ∈ row, (Lit.int .i64 z).wf = true) ∧ zs.length ≤ maxLen := by
  generalize hc : [v] = c at h
  cases h with
  | nil => cases hc; exact ⟨[], .inl ⟨rfl, rfl⟩, fun _ h => (by cases h), by simp⟩
  | slc hl hr hh =>
    cases hc
    obtain ⟨zs, h1, h2, h3⟩ := layL_rows hh
    obtain ⟨ro, hr⟩ := hr
    refine ⟨zs, .inr ⟨_, 0, by rw [h1]; rfl, fun i hi => ?_⟩, h3, by omega⟩
    obtain ⟨u, a, b⟩ := h2 i hi
    exact ⟨u, by unfold ld; rw [hr]; simpa using a, b⟩
theorem ACall.rows_arg {f : FuncId} {pre post : List Value} {σ : AHeap} {v : Value} {rows : List (List Int)} {R : Value → AHeap → Prop} (hc : callable Try.prog f = true) (hv : RowsV σ v rows)
    (h : ∀ σ1 g o, Sub σ σ1 → RowsAt σ1 g o rows → ACall Try.prog w0 f (pre ++ .slice (some ⟨g, o, none⟩) rows.length 1 :: post) σ1 R) : ACall Try.prog w0 f (pre ++ v :: post) σ R := by
  rcases hv with ⟨rfl, rfl⟩ | ⟨g, o, rfl, hg⟩
  · exact ACall.nil_arg hc fun g hg => h _ g 0 (sub_upd hg) (fun i hi => absurd hi (by simp))
  · exact h σ g o (Sub.refl _) hg

theorem azeros_nil (l : Nat) : azeros (.slice none 0 0) (l * 1) = List.replicate l (.slice none 0 0) := by
  rw [Nat.mul_one, azeros_one _ rfl]
theorem toInts_calls (σ : AHeap) (v : Value) (xs : List Int) (hv : Ints .i64 σ v xs) (hl : xs.length ≤ 1048576) :
    ACall Try.prog w0 71 [v] σ fun r σ' => ∃ g, σ g = none ∧ r = .slice (some ⟨g, 0, none⟩) xs.length 1 ∧ Sub σ σ' ∧ σ' g = some ⟨ints .i64 xs, false⟩ := by
  refine ACall.ints_arg (pre := []) (post := []) (by kernel_rfl) hv fun σ1 g1 o1 hs1 hg1 => ?_
  refine (toInts_at σ1 g1 o1 xs hg1 hl).mono ?_
  rintro r τ1 ⟨q, a1, a2, a3, a4⟩
  exact ⟨q, free_sub hs1 a1, a2, hs1.trans a3, a4⟩
theorem set_new {vs : List Value} {n k : Nat} (hk : vs.length = k) (hn : k < n) (z v : Value) : (vs ++ List.replicate (n - k) z).set k v = (vs ++ [v]) ++ List.replicate (n - (k + 1)) z := by
  obtain ⟨m, hm⟩ : ∃ m, n - k = m + 1 := ⟨n - k - 1, by omega⟩
  have e : n - (k + 1) = m := by omega
  rw [hm, e, List.set_append_right _ _ (by omega), hk, Nat.sub_self, List.replicate_succ, List.set_cons_zero, List.append_assoc]; rfl

theorem toRows_at (σ : AHeap) (h o : Nat) (rows : List (List Int)) (hv : RowsAt σ h o rows) (hl : rows.length ≤ 1048576) (hr : ∀ i, i < rows.length → (rows.getD i []).length ≤ 1048576) :
    ACall Try.prog w0 46 [.slice (some ⟨h, o, none⟩) rows.length 1] σ fun r σ' => ∃ g, σ g = none ∧ r = .slice (some ⟨g, 0, none⟩) rows.length 1 ∧ Sub σ σ' ∧ RowsAt σ' g 0 rows := by
  refine acall_go mixed Try.func46 rfl good46 fun pr => ?_
  simp -implicitDefEqProofs (disch := omega) only [List.any_cons, List.any_nil, Nat.reduceEqDiff, List.map_cons, List.map_nil, Option.map_some, Option.map_none, List.nil_append, ↓reduceIte, vcu, ↓vcd]
  refine r_make (kx := .i64) (ky := .i64) (l := rows.length) (c := rows.length) el23 (by simp -implicitDefEqProofs (disch := omega) only [List.any_cons, List.any_nil, Nat.reduceEqDiff, List.map_cons, List.map_nil, Option.map_some, Option.map_none, List.nil_append, ↓reduceIte, vcu, ↓vcd]) (by simp -implicitDefEqProofs (disch := omega) only [List.any_cons, List.any_nil, Nat.reduceEqDiff, List.map_cons, List.map_nil, Option.map_some, Option.map_none, List.nil_append, ↓reduceIte, vcu, ↓vcd]) (by omega) fun g τ hg hs he => ?_
  rw [azeros_nil] at he
  simp -implicitDefEqProofs (disch := omega) only [List.any_cons, List.any_nil, Nat.reduceEqDiff, List.map_cons, List.map_nil, Option.map_some, Option.map_none, List.nil_append, ↓reduceIte, vcu, ↓vcd]
  refine vc_loop_c mixed (by kernel_rfl) [0, 3] (fun m a σ' => ∃ (k : Nat) (vs : List Value), m + k = rows.length ∧ a 4 = .int .i64 k ∧ vs.length = k ∧ Sub σ σ' ∧ σ' g = some ⟨vs ++ List.replicate (rows.length - k) (.slice none 0 0), false⟩ ∧
    ∀ i, i < k → ∃ q, vs[i]? = some (.slice (some ⟨q, 0, none⟩) (rows.getD i []).length 1) ∧ q ≠ g ∧ σ' q = some ⟨ints .i64 (rows.getD i []), false⟩) rows.length ⟨0, [], by simp, rfl, rfl, hs, by simpa using he, by simp⟩ ?_
  rintro m a σ' hc ⟨k, vs, hk, h4, hvs, hsub, hgk, hall⟩
  simp -implicitDefEqProofs (disch := omega) only [List.any_cons, List.any_nil, Nat.reduceEqDiff, List.map_cons, List.map_nil, Option.map_some, Option.map_none, List.nil_append, ↓reduceIte, vcu, ↓vcd] at hc
  obtain ⟨h0, h3, -⟩ := hc
  by_cases hlt : k < rows.length
  · obtain ⟨v, hx, hi⟩ := (hv.sub hsub) k hlt
    have hrk := hr k hlt
    generalize hrow : rows.getD k [] = row at hi hrk
    simp -implicitDefEqProofs (disch := omega) only [List.any_cons, List.any_nil, Nat.reduceEqDiff, List.map_cons, List.map_nil, Option.map_some, Option.map_none, List.nil_append, ↓reduceIte, vcu, ↓vcd, h0, h3, h4, hx]
    refine (toInts_calls σ' v row hi hrk).mono ?_
    rintro r τ3 ⟨q, nq, rfl, s3, e3⟩
    have hne : q ≠ g := ne_of nq hgk
    simp -implicitDefEqProofs (disch := omega) only [List.any_cons, List.any_nil, Nat.reduceEqDiff, List.map_cons, List.map_nil, Option.map_some, Option.map_none, List.nil_append, ↓reduceIte, vcu, ↓vcd, opK_some, h0, h3, h4]
    refine r_set (g := g) (i := 0 + k) (by simp -implicitDefEqProofs (disch := omega) only [List.any_cons, List.any_nil, Nat.reduceEqDiff, List.map_cons, List.map_nil, Option.map_some, Option.map_none, List.nil_append, ↓reduceIte, vcu, ↓vcd, h3]) (by simp -implicitDefEqProofs (disch := omega) only [List.any_cons, List.any_nil, Nat.reduceEqDiff, List.map_cons, List.map_nil, Option.map_some, Option.map_none, List.nil_append, ↓reduceIte, vcu, ↓vcd]; rfl) co27 (by simp -implicitDefEqProofs (disch := omega) only [List.any_cons, List.any_nil, Nat.reduceEqDiff, List.map_cons, List.map_nil, Option.map_some, Option.map_none, List.nil_append, ↓reduceIte, vcu, ↓vcd]; rfl) (s3 _ _ hgk) (by simp; omega) fun τ4 k4 e4 => ?_
    simp -implicitDefEqProofs (disch := omega) only [List.any_cons, List.any_nil, Nat.reduceEqDiff, List.map_cons, List.map_nil, Option.map_some, Option.map_none, List.nil_append, ↓reduceIte, vcu, ↓vcd, Nat.zero_add] at e4
    rw [set_new hvs hlt] at e4
    simp -implicitDefEqProofs (disch := omega) only [List.any_cons, List.any_nil, Nat.reduceEqDiff, List.map_cons, List.map_nil, Option.map_some, Option.map_none, List.nil_append, ↓reduceIte, vcu, ↓vcd, h0, h3, h4]
    refine ⟨⟨trivial, trivial, trivial⟩, m - 1, by omega, k + 1, vs ++ [.slice (some ⟨q, 0, none⟩) row.length 1], by omega, by simp, by simp [hvs], k4.sub (hsub.trans s3) hg, e4, fun i hi => ?_⟩
    by_cases e : i = k
    · subst e
      exact ⟨q, by rw [hrow]; simp [hvs], hne, by rw [hrow]; exact k4.at e3 hne⟩
    · obtain ⟨q', b1, b2, b3⟩ := hall i (by omega)
      exact ⟨q', by rw [List.getElem?_append_left (by omega)]; exact b1, b2, k4.at (s3 _ _ b3) b2⟩
  · simp -implicitDefEqProofs (disch := omega) only [List.any_cons, List.any_nil, Nat.reduceEqDiff, List.map_cons, List.map_nil, Option.map_some, Option.map_none, List.nil_append, ↓reduceIte, vcu, ↓vcd, h0, h3, h4]
    have e2 : k = rows.length := by omega
    subst e2
    refine fin_one Try.results46 ⟨g, hg, ?_, hsub, fun i hi => ?_⟩
    · simp -implicitDefEqProofs (disch := omega) only [List.any_cons, List.any_nil, Nat.reduceEqDiff, List.map_cons, List.map_nil, Option.map_some, Option.map_none, List.nil_append, ↓reduceIte, vcu, ↓vcd, h3]
    · obtain ⟨q, b1, b2, b3⟩ := hall i hi
      refine ⟨_, ?_, .inr ⟨q, 0, rfl, intsAt_own b3⟩⟩
      unfold ld
      rw [hgk]
      simpa using b1
end Go.Proofs.Ytpcbgdgfdfpapaa

namespace Go.Proofs.Ytpcbgdgfdfpapaa
open Go Go.Abs Go.RowKit
variable {w0 : World}

theorem amax_three {k k' k'' : IntKind} {x y z : Int} : amax [.int k x, .int k' y, .int k'' z] = some (.int k (max (max x y) z)) := by
  simp only [amax]; congr 2; split <;> split <;> omega
def psum (xs : List Int) : Nat → Int
  | 0 => 0
  | k + 1 => psum xs k + xs.getD k 0
def csum (rows : List (List Int)) (c : Nat) : Nat → Int
  | 0 => 0
  | k + 1 => csum rows c k + (rows.getD k []).getD c 0
theorem psum_le {xs : List Int} (h : ∀ j, j < xs.length → 0 ≤ xs.getD j 0 ∧ xs.getD j 0 ≤ 6) : ∀ k, k ≤ xs.length → 0 ≤ psum xs k ∧ psum xs k ≤ 6 * k
  | 0, _ => by simp [psum]
  | k + 1, hk => by
    have := psum_le h k (by omega)
    have := h k (by omega)
    simp only [psum]; omega
theorem TV.at {rows : List (List Int)} (hT : TV rows) {i j : Nat} (hi : i < rows.length) (hj : j < rows.length) : 0 ≤ (rows.getD i []).getD j 0 ∧ (rows.getD i []).getD j 0 ≤ 6 := by
  have h := hT.2 i hi
  exact h.2 j (by rw [h.1]; exact hj)
theorem csum_le {rows : List (List Int)} (hT : TV rows) {c : Nat} (hc : c < rows.length) : ∀ k, k ≤ rows.length → 0 ≤ csum rows c k ∧ csum rows c k ≤ 6 * k
  | 0, _ => by simp [csum]
  | k + 1, hk => by
    have := csum_le hT hc k (by omega)
    have := hT.at (i := k) (by omega) hc
    simp only [csum]; omega

theorem l1Sum_calls (σ : AHeap) (v : Value) (xs : List Int) (hv : Ints .i64 σ v xs) (hl : xs.length ≤ 6) (hx : ∀ j, j < xs.length → 0 ≤ xs.getD j 0 ∧ xs.getD j 0 ≤ 6) :
    ACall Try.prog w0 62 [v] σ fun r σ' => r = .int .i64 (psum xs xs.length) ∧ σ' = σ := by
  refine ACall.ints_quiet (pre := []) (post := []) (by kernel_rfl) hv fun σ1 h o _ hg => ?_
  refine acall_go mixed Try.func62 rfl good62 fun pr => ?_
  simp -implicitDefEqProofs (disch := omega) only [List.any_cons, List.any_nil, Nat.reduceEqDiff, List.map_cons, List.map_nil, Option.map_some, Option.map_none, List.nil_append, ↓reduceIte, vcu, ↓vcd]
  refine vc_loop_c mixed (by kernel_rfl) [0] (fun m a σ' => ∃ k : Nat, m + k = xs.length ∧ a 4 = .int .i64 k ∧ a 3 = .int .i64 (psum xs k) ∧ σ' = σ1) xs.length ⟨0, by simp, rfl, rfl, rfl⟩ ?_
  rintro m a σ' hc ⟨k, hk, h4, h3, rfl⟩
  simp -implicitDefEqProofs (disch := omega) only [List.any_cons, List.any_nil, Nat.reduceEqDiff, List.map_cons, List.map_nil, Option.map_some, Option.map_none, List.nil_append, ↓reduceIte, vcu, ↓vcd] at hc
  obtain ⟨h0, -⟩ := hc
  have hb := psum_le hx k (by omega)
  by_cases hlt : k < xs.length
  · have hy := hg k hlt
    have hbx := hx k hlt
    simp -implicitDefEqProofs (disch := omega) only [List.any_cons, List.any_nil, Nat.reduceEqDiff, List.map_cons, List.map_nil, Option.map_some, Option.map_none, List.nil_append, ↓reduceIte, vcu, ↓vcd, h0, h3, h4, hy]
    exact ⟨⟨trivial, trivial⟩, m - 1, by omega, k + 1, by omega, by simp, rfl, trivial⟩
  · simp -implicitDefEqProofs (disch := omega) only [List.any_cons, List.any_nil, Nat.reduceEqDiff, List.map_cons, List.map_nil, Option.map_some, Option.map_none, List.nil_append, ↓reduceIte, vcu, ↓vcd, h0, h3, h4]
    have e : k = xs.length := by omega
    refine fin_one Try.results62 ⟨?_, rfl⟩
    simp -implicitDefEqProofs (disch := omega) only [List.any_cons, List.any_nil, Nat.reduceEqDiff, List.map_cons, List.map_nil, Option.map_some, Option.map_none, List.nil_append, ↓reduceIte, vcu, ↓vcd, h3]
    rw [e]

theorem l1Column_at (σ : AHeap) (h o : Nat) (rows : List (List Int)) (c : Nat) (hv : RowsAt σ h o rows) (hT : TV rows) (hc : c < rows.length) :
    ACall Try.prog w0 65 [.slice (some ⟨h, o, none⟩) rows.length 1, .int .i64 c] σ fun r σ' => r = .int .i64 (csum rows c rows.length) ∧ σ' = σ := by
  have hT6 := hT.1
  refine acall_go mixed Try.func65 rfl good65 fun pr => ?_
  simp -implicitDefEqProofs (disch := omega) only [List.any_cons, List.any_nil, Nat.reduceEqDiff, List.map_cons, List.map_nil, Option.map_some, Option.map_none, List.nil_append, ↓reduceIte, vcu, ↓vcd]
  refine vc_loop_c mixed (by kernel_rfl) [0, 1] (fun m a σ' => ∃ k : Nat, m + k = rows.length ∧ a 6 = .int .i64 k ∧ a 5 = .int .i64 (csum rows c k) ∧ σ' = σ) rows.length ⟨0, by simp, rfl, rfl, rfl⟩ ?_
  rintro m a σ' hcc ⟨k, hk, h6, h5, rfl⟩
  simp -implicitDefEqProofs (disch := omega) only [List.any_cons, List.any_nil, Nat.reduceEqDiff, List.map_cons, List.map_nil, Option.map_some, Option.map_none, List.nil_append, ↓reduceIte, vcu, ↓vcd] at hcc
  obtain ⟨h0, h1, -⟩ := hcc
  have hb := csum_le hT hc k (by omega)
  by_cases hlt : k < rows.length
  · obtain ⟨v, hx, hi⟩ := hv k hlt
    have hat := hT.at hlt hc
    have hrl := (hT.2 k hlt).1
    have hs : csum rows c (k + 1) = csum rows c k + (rows.getD k []).getD c 0 := rfl
    generalize rows.getD k [] = row at hi hat hrl hs
    rcases hi with ⟨rfl, rfl⟩ | ⟨g, p, rfl, hg⟩
    · simp at hrl; omega
    · have hy := hg c (by omega)
      simp -implicitDefEqProofs (disch := omega) only [List.any_cons, List.any_nil, Nat.reduceEqDiff, List.map_cons, List.map_nil, Option.map_some, Option.map_none, List.nil_append, ↓reduceIte, vcu, ↓vcd, h0, h1, h5, h6, hx, hy]
      exact ⟨⟨trivial, trivial, trivial⟩, m - 1, by omega, k + 1, by omega, by simp, by rw [hs], trivial⟩
  · simp -implicitDefEqProofs (disch := omega) only [List.any_cons, List.any_nil, Nat.reduceEqDiff, List.map_cons, List.map_nil, Option.map_some, Option.map_none, List.nil_append, ↓reduceIte, vcu, ↓vcd, h0, h1, h5, h6]
    have e : k = rows.length := by omega
    refine fin_one Try.results65 ⟨?_, rfl⟩
    simp -implicitDefEqProofs (disch := omega) only [List.any_cons, List.any_nil, Nat.reduceEqDiff, List.map_cons, List.map_nil, Option.map_some, Option.map_none, List.nil_append, ↓reduceIte, vcu, ↓vcd, h5]
    rw [e]

/-- the most of the first k lines -/
def most (rows : List (List Int)) : Nat → Int
  | 0 => 0
  | k + 1 => max (max (most rows k) (psum (rows.getD k []) rows.length)) (csum rows k rows.length)
theorem most_le {rows : List (List Int)} (hT : TV rows) : ∀ k, k ≤ rows.length → 0 ≤ most rows k ∧ most rows k ≤ 36
  | 0, _ => by simp [most]
  | k + 1, hk => by
    have h1 := most_le hT k (by omega)
    have hr := hT.2 k (by omega)
    have h2 := psum_le hr.2 rows.length (by rw [hr.1]; exact Nat.le_refl _)
    have h3 := csum_le hT (c := k) (by omega) rows.length (Nat.le_refl _)
    have := hT.1
    simp only [most]; omega
def mostV (rows : List (List Int)) : Int := if TV rows then most rows rows.length else -1

theorem specMost_at (σ : AHeap) (h o : Nat) (rows : List (List Int)) (hv : RowsAt σ h o rows) (hl : rows.length ≤ 1048576) :
    ACall Try.prog w0 64 [.slice (some ⟨h, o, none⟩) rows.length 1] σ fun r σ' => r = .int .i64 (mostV rows) ∧ σ' = σ := by
  unfold mostV
  refine acall_go mixed Try.func64 rfl good64 fun pr => ?_
  simp -implicitDefEqProofs (disch := omega) only [List.any_cons, List.any_nil, Nat.reduceEqDiff, List.map_cons, List.map_nil, Option.map_some, Option.map_none, List.nil_append, ↓reduceIte, vcu, ↓vcd]
  refine (specTV_at σ h o rows hv hl).mono ?_
  rintro r _ ⟨rfl, rfl⟩
  rename_i σ
  by_cases hT : TV rows
  · rw [decide_eq_true hT, if_pos hT]
    simp -implicitDefEqProofs (disch := omega) only [List.any_cons, List.any_nil, Nat.reduceEqDiff, List.map_cons, List.map_nil, Option.map_some, Option.map_none, List.nil_append, ↓reduceIte, vcu, ↓vcd, opK_some]
    refine vc_loop_c mixed (by kernel_rfl) [0] (fun m a σ' => ∃ k : Nat, m + k = rows.length ∧ a 4 = .int .i64 k ∧ a 3 = .int .i64 (most rows k) ∧ σ' = σ) rows.length ⟨0, by simp, rfl, rfl, rfl⟩ ?_
    rintro m a σ' hc ⟨k, hk, h4, h3, rfl⟩
    simp -implicitDefEqProofs (disch := omega) only [List.any_cons, List.any_nil, Nat.reduceEqDiff, List.map_cons, List.map_nil, Option.map_some, Option.map_none, List.nil_append, ↓reduceIte, vcu, ↓vcd] at hc
    obtain ⟨h0, -⟩ := hc
    have hT6 := hT.1
    by_cases hlt : k < rows.length
    · obtain ⟨v, hx, hi⟩ := hv k hlt
      have hr := hT.2 k hlt
      have hs : most rows (k + 1) = max (max (most rows k) (psum (rows.getD k []) rows.length)) (csum rows k rows.length) := rfl
      simp -implicitDefEqProofs (disch := omega) only [List.any_cons, List.any_nil, Nat.reduceEqDiff, List.map_cons, List.map_nil, Option.map_some, Option.map_none, List.nil_append, ↓reduceIte, vcu, ↓vcd, h0, h3, h4, hx]
      refine (l1Sum_calls σ' v _ hi (by rw [hr.1]; omega) hr.2).mono ?_
      rintro r _ ⟨rfl, rfl⟩
      rename_i σ'
      rw [hr.1]
      simp -implicitDefEqProofs (disch := omega) only [List.any_cons, List.any_nil, Nat.reduceEqDiff, List.map_cons, List.map_nil, Option.map_some, Option.map_none, List.nil_append, ↓reduceIte, vcu, ↓vcd, opK_some, h0, h3, h4]
      refine (l1Column_at σ' h o rows k hv hT hlt).mono ?_
      rintro r _ ⟨rfl, rfl⟩
      simp -implicitDefEqProofs (disch := omega) only [List.any_cons, List.any_nil, Nat.reduceEqDiff, List.map_cons, List.map_nil, Option.map_some, Option.map_none, List.nil_append, ↓reduceIte, vcu, ↓vcd, opK_some, h0, h3, h4, amax_three]
      exact ⟨⟨trivial, trivial⟩, m - 1, by omega, k + 1, by omega, by simp, by rw [hs], trivial⟩
    · simp -implicitDefEqProofs (disch := omega) only [List.any_cons, List.any_nil, Nat.reduceEqDiff, List.map_cons, List.map_nil, Option.map_some, Option.map_none, List.nil_append, ↓reduceIte, vcu, ↓vcd, h0, h3, h4]
      have e : k = rows.length := by omega
      refine fin_one Try.results64 ⟨?_, rfl⟩
      simp -implicitDefEqProofs (disch := omega) only [List.any_cons, List.any_nil, Nat.reduceEqDiff, List.map_cons, List.map_nil, Option.map_some, Option.map_none, List.nil_append, ↓reduceIte, vcu, ↓vcd, h3]
      rw [e]
  · rw [decide_eq_false hT, if_neg hT]
    simp -implicitDefEqProofs (disch := omega) only [List.any_cons, List.any_nil, Nat.reduceEqDiff, List.map_cons, List.map_nil, Option.map_some, Option.map_none, List.nil_append, ↓reduceIte, vcu, ↓vcd, opK_some]
    refine fin_one Try.results64 ⟨?_, rfl⟩
    simp -implicitDefEqProofs (disch := omega) only [List.any_cons, List.any_nil, Nat.reduceEqDiff, List.map_cons, List.map_nil, Option.map_some, Option.map_none, List.nil_append, ↓reduceIte, vcu, ↓vcd]
end Go.Proofs.Ytpcbgdgfdfpapaa

namespace Go.Proofs.Ytpcbgdgfdfpapaa
open Go Go.Abs Go.RowKit
variable {w0 : World}

theorem getD_set (S : List Int) {i : Nat} (hi : i < S.length) (v : Int) (a : Nat) : (S.set i v).getD a 0 = if a = i then v else S.getD a 0 := by
  simp only [List.getD, List.getElem?_set]
  by_cases e : i = a
  · subst e; simp [hi]
  · rw [if_neg e, if_neg (fun h => e h.symm)]
/-- the sums while the line i is added, up to j -/
structure SumsAt (rows : List (List Int)) (i j : Nat) (S : List Int) : Prop where
  len : S.length = 2 * rows.length
  row : ∀ a, a < rows.length → S.getD a 0 = if a < i then psum (rows.getD a []) rows.length else if a = i then psum (rows.getD a []) j else 0
  col : ∀ b, b < rows.length → S.getD (rows.length + b) 0 = csum rows b (if b < j then i + 1 else i)
theorem SumsAt.next {rows : List (List Int)} {i : Nat} {S : List Int} (h : SumsAt rows i rows.length S) : SumsAt rows (i + 1) 0 S :=
  ⟨h.len, fun a ha => by
    rw [h.row a ha]
    by_cases h1 : a < i
    · rw [if_pos h1, if_pos (by omega)]
    · by_cases h2 : a = i
      · subst h2; rw [if_neg (by omega), if_pos rfl, if_pos (by omega)]
      · rw [if_neg h1, if_neg h2, if_neg (by omega)]; split <;> rfl, fun b hb => by
    rw [h.col b hb, if_pos hb, if_neg (by omega)]⟩
theorem SumsAt.step {rows : List (List Int)} {i j : Nat} {S : List Int} (h : SumsAt rows i j S) (hi : i < rows.length) (hj : j < rows.length) (x : Int) (hx : (rows.getD i []).getD j 0 = x) :
    SumsAt rows i (j + 1) ((S.set i (S.getD i 0 + x)).set (rows.length + j) ((S.set i (S.getD i 0 + x)).getD (rows.length + j) 0 + x)) := by
  have hl := h.len
  refine ⟨by simp [hl], fun a ha => ?_, fun b hb => ?_⟩
  · rw [getD_set _ (by simp; omega), if_neg (by omega), getD_set _ (by omega)]
    by_cases e : a = i
    · subst e
      rw [if_pos rfl, if_neg (by omega), if_pos rfl, h.row a ha, if_neg (by omega), if_pos rfl, ← hx]; rfl
    · rw [if_neg e, h.row a ha, if_neg e, if_neg e]
  · rw [getD_set _ (by simp; omega)]
    by_cases e : b = j
    · subst e
      rw [if_pos rfl, getD_set _ (by omega), if_neg (by omega), h.col b hb, if_neg (by omega), if_pos (by omega), ← hx]; rfl
    · rw [if_neg (by omega), getD_set _ (by omega), if_neg (by omega), h.col b hb]
      by_cases h1 : b < j
      · rw [if_pos h1, if_pos (by omega)]
      · rw [if_neg h1, if_neg (by omega)]
theorem SumsAt.start (rows : List (List Int)) : SumsAt rows 0 0 (List.replicate (2 * rows.length) 0) :=
  ⟨by simp, fun a ha => by
    have : (List.replicate (2 * rows.length) (0 : Int)).getD a 0 = 0 := by simp [List.getD, List.getElem?_replicate]; split <;> rfl
    rw [this]; by_cases h : a = 0
    · subst h; simp [psum]
    · simp [h], fun b hb => by
    have : (List.replicate (2 * rows.length) (0 : Int)).getD (rows.length + b) 0 = 0 := by simp [List.getD, List.getElem?_replicate]; split <;> rfl
    rw [this]; simp [csum]⟩
theorem SumsAt.le {rows : List (List Int)} {i j : Nat} {S : List Int} (hT : TV rows) (h : SumsAt rows i j S) (hi : i < rows.length) (hj : j ≤ rows.length) : ∀ a, a < S.length → 0 ≤ S.getD a 0 ∧ S.getD a 0 ≤ 36 := by
  intro a ha
  have h6 := hT.1
  rw [h.len] at ha
  by_cases h1 : a < rows.length
  · rw [h.row a h1]
    have hr := hT.2 a h1
    have p1 := psum_le hr.2 rows.length (by rw [hr.1]; exact Nat.le_refl _)
    have p2 := psum_le hr.2 j (by rw [hr.1]; exact hj)
    split
    · omega
    · split <;> omega
  · obtain ⟨b, rfl⟩ : ∃ b, a = rows.length + b := ⟨a - rows.length, by omega⟩
    rw [h.col b (by omega)]
    split
    · have := csum_le hT (c := b) (by omega) (i + 1) (by omega); omega
    · have := csum_le hT (c := b) (by omega) i (by omega); omega

theorem lineSums_at (σ : AHeap) (h o : Nat) (rows : List (List Int)) (hv : RowsAt σ h o rows) (hT : TV rows) :
    ACall Try.prog w0 59 [.slice (some ⟨h, o, none⟩) rows.length 1] σ fun r σ' => ∃ (g : Nat) (S : List Int), σ g = none ∧ r = .slice (some ⟨g, 0, none⟩) (2 * rows.length) 1 ∧ Sub σ σ' ∧ σ' g = some ⟨ints .i64 S, false⟩ ∧ SumsAt rows rows.length 0 S := by
  have h6 := hT.1
  refine acall_go mixed Try.func59 rfl good59 fun pr => ?_
  have e2 : (2 * (rows.length : Int)) = ((2 * rows.length : Nat) : Int) := by omega
  simp -implicitDefEqProofs (disch := omega) only [List.any_cons, List.any_nil, Nat.reduceEqDiff, List.map_cons, List.map_nil, Option.map_some, Option.map_none, List.nil_append, ↓reduceIte, vcu, ↓vcd, e2]
  refine r_makeI (kx := .i64) (ky := .i64) (l := 2 * rows.length) (c := 2 * rows.length) el30 (by omega) (by simp -implicitDefEqProofs (disch := omega) only [List.any_cons, List.any_nil, Nat.reduceEqDiff, List.map_cons, List.map_nil, Option.map_some, Option.map_none, List.nil_append, ↓reduceIte, vcu, ↓vcd]) (by simp -implicitDefEqProofs (disch := omega) only [List.any_cons, List.any_nil, Nat.reduceEqDiff, List.map_cons, List.map_nil, Option.map_some, Option.map_none, List.nil_append, ↓reduceIte, vcu, ↓vcd]) (by omega) fun g τ hg hs he => ?_
  simp -implicitDefEqProofs (disch := omega) only [List.any_cons, List.any_nil, Nat.reduceEqDiff, List.map_cons, List.map_nil, Option.map_some, Option.map_none, List.nil_append, ↓reduceIte, vcu, ↓vcd]
  refine vc_loop_c mixed (by kernel_rfl) [0, 3, 12, 13] (fun m a σ' => ∃ (i : Nat) (S : List Int), m + i = rows.length ∧ a 14 = .int .i64 i ∧ Sub σ σ' ∧ σ' g = some ⟨ints .i64 S, false⟩ ∧ SumsAt rows i 0 S) rows.length ⟨0, _, by simp, rfl, hs, he, SumsAt.start rows⟩ ?_
  rintro m a σ' hc ⟨i, S, hi, h14, hsub, hgS, hS⟩
  simp -implicitDefEqProofs (disch := omega) only [List.any_cons, List.any_nil, Nat.reduceEqDiff, List.map_cons, List.map_nil, Option.map_some, Option.map_none, List.nil_append, ↓reduceIte, vcu, ↓vcd] at hc
  obtain ⟨h0, h3, h12, h13, -⟩ := hc
  by_cases hlt : i < rows.length
  · obtain ⟨v, hx, hrow⟩ := (hv.sub hsub) i hlt
    have hr := hT.2 i hlt
    have hrl := hr.1
    generalize hrw : rows.getD i [] = row at hrow hr hrl
    rcases hrow with ⟨rfl, rfl⟩ | ⟨q, p, rfl, hq⟩
    · simp at hrl; omega
    have hqg : q ≠ g := by
      rintro rfl
      have h00 := hq 0 (by omega)
      obtain ⟨v', hv', hr'⟩ := hv i hlt
      rw [hrw] at hr'
      unfold ld at hx hv'
      cases hσ : σ h with
      | none => rw [hσ] at hv'; cases hv'
      | some ob =>
        rw [hσ] at hv'
        rw [hsub _ _ hσ] at hx
        simp only [Option.bind_some] at hx hv'
        rw [hx] at hv'
        cases hv'
        rcases hr' with ⟨e, -⟩ | ⟨q', p', e, hq'⟩
        · cases e
        · cases e
          have := hq' 0 (by omega)
          unfold ld at this; rw [hg] at this; cases this
    simp -implicitDefEqProofs (disch := omega) only [List.any_cons, List.any_nil, Nat.reduceEqDiff, List.map_cons, List.map_nil, Option.map_some, Option.map_none, List.nil_append, ↓reduceIte, vcu, ↓vcd, h0, h3, h12, h13, h14, hx]
    refine vc_loop_c mixed (by kernel_rfl) [0, 3, 4, 12, 13, 14, 19, 20] (fun m2 a2 σ2 => ∃ (j : Nat) (S2 : List Int), m2 + j = rows.length ∧ a2 21 = .int .i64 j ∧ Sub σ σ2 ∧ Kept g σ' σ2 ∧ σ2 g = some ⟨ints .i64 S2, false⟩ ∧ SumsAt rows i j S2) rows.length ⟨0, S, by simp, rfl, hsub, Kept.refl _ _, hgS, hS⟩ ?_
    rintro m2 a2 σ2 hc2 ⟨j, S2, hj, h21, hsub2, hk2, hgS2, hS2⟩
    simp -implicitDefEqProofs (disch := omega) only [List.any_cons, List.any_nil, Nat.reduceEqDiff, List.map_cons, List.map_nil, Option.map_some, Option.map_none, List.nil_append, ↓reduceIte, vcu, ↓vcd, h0, h3, h12, h13, h14] at hc2
    obtain ⟨c0, c3, c4, c12, c13, c14, c19, c20, -⟩ := hc2
    have hqall : IntsAt .i64 σ2 q p row := fun i' hi' => by
      have := hq i' hi'
      unfold ld at this ⊢
      cases e : σ' q with
      | none => rw [e] at this; cases this
      | some ob => rw [e] at this; rw [hk2.at e hqg]; exact this
    by_cases hjl : j < rows.length
    · have hy := hqall j (by omega)
      have hb := hr.2 j (by omega)
      have hle := hS2.le hT hlt (by omega)
      have hl2 := hS2.len
      have b1 := hle i (by omega)
      have hst := hS2.step hlt hjl (row.getD j 0) (by rw [hrw])
      have x1 := own_at hgS2 (i := i) (by omega)
      have enj : (rows.length : Int) + (j : Int) = ((rows.length + j : Nat) : Int) := by omega
      generalize row.getD j 0 = x at hy hb hst
      simp -implicitDefEqProofs (disch := omega) only [List.any_cons, List.any_nil, Nat.reduceEqDiff, List.map_cons, List.map_nil, Option.map_some, Option.map_none, List.nil_append, ↓reduceIte, vcu, ↓vcd, c0, c3, c4, c12, c13, c14, c19, c20, h21, hy, x1, hrl]
      refine r_setI (g := g) (i := 0 + i) (v := S2.getD i 0 + x) (by simp -implicitDefEqProofs (disch := omega) only [List.any_cons, List.any_nil, Nat.reduceEqDiff, List.map_cons, List.map_nil, Option.map_some, Option.map_none, List.nil_append, ↓reduceIte, vcu, ↓vcd, c3, c4]) (by simp -implicitDefEqProofs (disch := omega) only [List.any_cons, List.any_nil, Nat.reduceEqDiff, List.map_cons, List.map_nil, Option.map_some, Option.map_none, List.nil_append, ↓reduceIte, vcu, ↓vcd]) co3 hgS2 (by omega) fun τ3 k3 e3 => ?_
      rw [Nat.zero_add] at e3
      have hl3 : (S2.set i (S2.getD i 0 + x)).length = 2 * rows.length := by simp [hl2]
      have x2 := own_at e3 (i := rows.length + j) (by omega)
      have b2 : 0 ≤ (S2.set i (S2.getD i 0 + x)).getD (rows.length + j) 0 ∧ (S2.set i (S2.getD i 0 + x)).getD (rows.length + j) 0 ≤ 42 := by
        rw [getD_set _ (by omega)]
        have := hle (rows.length + j) (by omega)
        split <;> omega
      simp -implicitDefEqProofs (disch := omega) only [List.any_cons, List.any_nil, Nat.reduceEqDiff, List.map_cons, List.map_nil, Option.map_some, Option.map_none, List.nil_append, ↓reduceIte, vcu, ↓vcd, c0, c3, h21, x2, enj]
      refine r_setI (g := g) (i := 0 + (rows.length + j)) (v := (S2.set i (S2.getD i 0 + x)).getD (rows.length + j) 0 + x) (by simp -implicitDefEqProofs (disch := omega) only [List.any_cons, List.any_nil, Nat.reduceEqDiff, List.map_cons, List.map_nil, Option.map_some, Option.map_none, List.nil_append, ↓reduceIte, vcu, ↓vcd, c3]) (by simp -implicitDefEqProofs (disch := omega) only [List.any_cons, List.any_nil, Nat.reduceEqDiff, List.map_cons, List.map_nil, Option.map_some, Option.map_none, List.nil_append, ↓reduceIte, vcu, ↓vcd]) co3 e3 (by omega) fun τ4 k4 e4 => ?_
      rw [Nat.zero_add] at e4
      simp -implicitDefEqProofs (disch := omega) only [List.any_cons, List.any_nil, Nat.reduceEqDiff, List.map_cons, List.map_nil, Option.map_some, Option.map_none, List.nil_append, ↓reduceIte, vcu, ↓vcd, h21]
      refine ⟨?_, m2 - 1, by omega, j + 1, _, by omega, by simp, (k3.trans k4).sub hsub2 hg, hk2.trans (k3.trans k4), e4, hst⟩
      simp [c0, c3, c4, c12, c13, c14, c19, c20, h0, h3, h12, h13, h14, hrl]
    · have e : j = rows.length := by omega
      subst e
      simp -implicitDefEqProofs (disch := omega) only [List.any_cons, List.any_nil, Nat.reduceEqDiff, List.map_cons, List.map_nil, Option.map_some, Option.map_none, List.nil_append, ↓reduceIte, vcu, ↓vcd, c0, c3, c14, c20, h21, hrl]
      refine ⟨?_, m - 1, by omega, i + 1, S2, by omega, by simp, hsub2, hgS2, hS2.next⟩
      simp [c0, c3, c12, c13, h0, h3, h12, h13]
  · have e : i = rows.length := by omega
    subst e
    simp -implicitDefEqProofs (disch := omega) only [List.any_cons, List.any_nil, Nat.reduceEqDiff, List.map_cons, List.map_nil, Option.map_some, Option.map_none, List.nil_append, ↓reduceIte, vcu, ↓vcd, h0, h3, h12, h13, h14]
    refine fin_one Try.results59 ⟨g, S, hg, ?_, hsub, hgS, hS⟩
    simp -implicitDefEqProofs (disch := omega) only [List.any_cons, List.any_nil, Nat.reduceEqDiff, List.map_cons, List.map_nil, Option.map_some, Option.map_none, List.nil_append, ↓reduceIte, vcu, ↓vcd, h3]

def mx (S : List Int) : Nat → Int
  | 0 => 0
  | k + 1 => max (mx S k) (S.getD k 0)
theorem mx_nn (S : List Int) : ∀ k, 0 ≤ mx S k
  | 0 => by simp [mx]
  | k + 1 => by have := mx_nn S k; simp only [mx]; omega
theorem le_mx (S : List Int) {i : Nat} : ∀ {k}, i < k → S.getD i 0 ≤ mx S k
  | 0, h => by omega
  | k + 1, h => by
    simp only [mx]
    by_cases e : i = k
    · subst e; omega
    · have := le_mx S (i := i) (k := k) (by omega); omega
theorem mx_le {S : List Int} {M : Int} (h0 : 0 ≤ M) : ∀ k, (∀ i, i < k → S.getD i 0 ≤ M) → mx S k ≤ M
  | 0, _ => by simpa [mx] using h0
  | k + 1, h => by
    have := mx_le h0 k (fun i hi => h i (by omega))
    have := h k (by omega)
    simp only [mx]; omega
theorem le_most {rows : List (List Int)} {i : Nat} : ∀ {k}, i < k → psum (rows.getD i []) rows.length ≤ most rows k ∧ csum rows i rows.length ≤ most rows k
  | 0, h => by omega
  | k + 1, h => by
    simp only [most]
    by_cases e : i = k
    · subst e; omega
    · have := le_most (rows := rows) (i := i) (k := k) (by omega); omega
theorem most_le' {rows : List (List Int)} {M : Int} (h0 : 0 ≤ M) : ∀ k, (∀ i, i < k → psum (rows.getD i []) rows.length ≤ M ∧ csum rows i rows.length ≤ M) → most rows k ≤ M
  | 0, _ => by simpa [most] using h0
  | k + 1, h => by
    have := most_le' h0 k (fun i hi => h i (by omega))
    have := h k (by omega)
    simp only [most]; omega
theorem mx_most {rows : List (List Int)} {S : List Int} (hT : TV rows) (h : SumsAt rows rows.length 0 S) : mx S (2 * rows.length) = most rows rows.length := by
  have hrow : ∀ a, a < rows.length → S.getD a 0 = psum (rows.getD a []) rows.length := fun a ha => by rw [h.row a ha, if_pos ha]
  have hcol : ∀ b, b < rows.length → S.getD (rows.length + b) 0 = csum rows b rows.length := fun b hb => by rw [h.col b hb, if_neg (by omega)]
  apply Int.le_antisymm
  · refine mx_le (most_le hT _ (Nat.le_refl _)).1 _ fun a ha => ?_
    by_cases h1 : a < rows.length
    · rw [hrow a h1]; exact (le_most h1).1
    · obtain ⟨b, rfl⟩ : ∃ b, a = rows.length + b := ⟨a - rows.length, by omega⟩
      rw [hcol b (by omega)]; exact (le_most (by omega)).2
  · refine most_le' (mx_nn _ _) _ fun i hi => ⟨?_, ?_⟩
    · rw [← hrow i hi]; exact le_mx S (by omega)
    · rw [← hcol i hi]; exact le_mx S (by omega)
theorem mx_36 {rows : List (List Int)} {S : List Int} (hT : TV rows) (h : SumsAt rows rows.length 0 S) (k : Nat) (hk : k ≤ 2 * rows.length) : 0 ≤ mx S k ∧ mx S k ≤ 36 := by
  refine ⟨mx_nn _ _, ?_⟩
  have hm := mx_most hT h
  have := (most_le hT rows.length (Nat.le_refl _)).2
  refine mx_le (by omega) _ fun i hi => ?_
  have := le_mx S (i := i) (k := 2 * rows.length) (by omega)
  omega

theorem implMost_at (σ : AHeap) (h o : Nat) (rows : List (List Int)) (hv : RowsAt σ h o rows) (hl : rows.length ≤ 1048576) :
    ACall Try.prog w0 25 [.slice (some ⟨h, o, none⟩) rows.length 1] σ fun r σ' => r = .int .i64 (mostV rows) ∧ Sub σ σ' := by
  unfold mostV
  refine acall_go mixed Try.func25 rfl good25 fun pr => ?_
  simp -implicitDefEqProofs (disch := omega) only [List.any_cons, List.any_nil, Nat.reduceEqDiff, List.map_cons, List.map_nil, Option.map_some, Option.map_none, List.nil_append, ↓reduceIte, vcu, ↓vcd]
  refine (implTV_at σ h o rows hv hl).mono ?_
  rintro r _ ⟨rfl, rfl⟩
  rename_i σ
  by_cases hT : TV rows
  · rw [decide_eq_true hT, if_pos hT]
    have h6 := hT.1
    simp -implicitDefEqProofs (disch := omega) only [List.any_cons, List.any_nil, Nat.reduceEqDiff, List.map_cons, List.map_nil, Option.map_some, Option.map_none, List.nil_append, ↓reduceIte, vcu, ↓vcd, opK_some]
    refine (lineSums_at σ h o rows hv hT).mono ?_
    rintro r τ ⟨g, S, hg, rfl, hs, he, hS⟩
    have hl2 := hS.len
    rw [← hl2]
    simp -implicitDefEqProofs (disch := omega) only [List.any_cons, List.any_nil, Nat.reduceEqDiff, List.map_cons, List.map_nil, Option.map_some, Option.map_none, List.nil_append, ↓reduceIte, vcu, ↓vcd, opK_some]
    refine vc_loop_c mixed (by kernel_rfl) [10, 11] (fun m a σ' => ∃ k : Nat, m + k = S.length ∧ a 12 = .int .i64 k ∧ a 3 = .int .i64 (mx S k) ∧ σ' = τ) S.length ⟨0, by simp, rfl, rfl, rfl⟩ ?_
    rintro m a σ' hc ⟨k, hk, h12, h3, rfl⟩
    simp -implicitDefEqProofs (disch := omega) only [List.any_cons, List.any_nil, Nat.reduceEqDiff, List.map_cons, List.map_nil, Option.map_some, Option.map_none, List.nil_append, ↓reduceIte, vcu, ↓vcd] at hc
    obtain ⟨h10, h11, -⟩ := hc
    by_cases hlt : k < S.length
    · have hx := own_at he hlt
      have hs2 : mx S (k + 1) = max (mx S k) (S.getD k 0) := rfl
      simp -implicitDefEqProofs (disch := omega) only [List.any_cons, List.any_nil, Nat.reduceEqDiff, List.map_cons, List.map_nil, Option.map_some, Option.map_none, List.nil_append, ↓reduceIte, vcu, ↓vcd, h10, h11, h12, h3, hx]
      exact ⟨⟨trivial, trivial, trivial⟩, m - 1, by omega, k + 1, by omega, by simp, by rw [hs2], trivial⟩
    · have e : k = S.length := by omega
      simp -implicitDefEqProofs (disch := omega) only [List.any_cons, List.any_nil, Nat.reduceEqDiff, List.map_cons, List.map_nil, Option.map_some, Option.map_none, List.nil_append, ↓reduceIte, vcu, ↓vcd, h10, h11, h12, h3]
      refine fin_one Try.results25 ⟨?_, hs⟩
      simp -implicitDefEqProofs (disch := omega) only [List.any_cons, List.any_nil, Nat.reduceEqDiff, List.map_cons, List.map_nil, Option.map_some, Option.map_none, List.nil_append, ↓reduceIte, vcu, ↓vcd, h3]
      rw [e, hl2, mx_most hT hS]
  · rw [decide_eq_false hT, if_neg hT]
    simp -implicitDefEqProofs (disch := omega) only [List.any_cons, List.any_nil, Nat.reduceEqDiff, List.map_cons, List.map_nil, Option.map_some, Option.map_none, List.nil_append, ↓reduceIte, vcu, ↓vcd, opK_some]
    refine fin_one Try.results25 ⟨?_, Sub.refl _⟩
    simp -implicitDefEqProofs (disch := omega) only [List.any_cons, List.any_nil, Nat.reduceEqDiff, List.map_cons, List.map_nil, Option.map_some, Option.map_none, List.nil_append, ↓reduceIte, vcu, ↓vcd]
end Go.Proofs.Ytpcbgdgfdfpapaa

namespace Go.Proofs.Ytpcbgdgfdfpapaa
open Go Go.Abs Go.RowKit
variable {w0 : World}

def EvenT (rows : List (List Int)) : Prop := TV rows ∧ ∀ i, i < rows.length → psum (rows.getD i []) rows.length = most rows rows.length ∧ csum rows i rows.length = most rows rows.length
instance (rows : List (List Int)) : Decidable (EvenT rows) := by unfold EvenT; infer_instance

theorem even_sums {rows : List (List Int)} {S : List Int} (hT : TV rows) (h : SumsAt rows rows.length 0 S) : EvenT rows ↔ ∀ i, i < S.length → S.getD i 0 = S.getD 0 0 := by
  have hrow : ∀ a, a < rows.length → S.getD a 0 = psum (rows.getD a []) rows.length := fun a ha => by rw [h.row a ha, if_pos ha]
  have hcol : ∀ b, b < rows.length → S.getD (rows.length + b) 0 = csum rows b rows.length := fun b hb => by rw [h.col b hb, if_neg (by omega)]
  have hm := mx_most hT h
  have hl := h.len
  constructor
  · intro hE i hi
    have h0 : S.getD 0 0 = most rows rows.length := by rw [hrow 0 (by omega)]; exact (hE.2 0 (by omega)).1
    rw [h0]
    by_cases h1 : i < rows.length
    · rw [hrow i h1]; exact (hE.2 i h1).1
    · obtain ⟨b, rfl⟩ : ∃ b, i = rows.length + b := ⟨i - rows.length, by omega⟩
      rw [hcol b (by omega)]; exact (hE.2 b (by omega)).2
  · intro hS
    refine ⟨hT, fun i hi => ?_⟩
    have hM : most rows rows.length = S.getD 0 0 := by
      rw [← hm]
      have h0 : 0 ≤ S.getD 0 0 := by
        rw [hrow 0 (by omega)]
        have hr := hT.2 0 (by omega)
        exact (psum_le hr.2 rows.length (by rw [hr.1]; exact Nat.le_refl _)).1
      apply Int.le_antisymm
      · exact mx_le h0 _ fun j hj => by rw [hS j (by omega)]; exact Int.le_refl _
      · exact le_mx S (by omega)
    rw [hM]
    exact ⟨by rw [← hrow i hi]; exact hS i (by omega), by rw [← hcol i hi]; exact hS _ (by omega)⟩

theorem implEven_at (σ : AHeap) (h o : Nat) (rows : List (List Int)) (hv : RowsAt σ h o rows) (hl : rows.length ≤ 1048576) :
    ACall Try.prog w0 34 [.slice (some ⟨h, o, none⟩) rows.length 1] σ fun r σ' => r = .bool (decide (EvenT rows)) ∧ Sub σ σ' := by
  refine acall_go mixed Try.func34 rfl good34 fun pr => ?_
  simp -implicitDefEqProofs (disch := omega) only [List.any_cons, List.any_nil, Nat.reduceEqDiff, List.map_cons, List.map_nil, Option.map_some, Option.map_none, List.nil_append, ↓reduceIte, vcu, ↓vcd]
  refine (implTV_at σ h o rows hv hl).mono ?_
  rintro r _ ⟨rfl, rfl⟩
  rename_i σ
  by_cases hT : TV rows
  · rw [decide_eq_true hT]
    simp -implicitDefEqProofs (disch := omega) only [List.any_cons, List.any_nil, Nat.reduceEqDiff, List.map_cons, List.map_nil, Option.map_some, Option.map_none, List.nil_append, ↓reduceIte, vcu, ↓vcd, opK_some]
    refine (lineSums_at σ h o rows hv hT).mono ?_
    rintro r τ ⟨g, S, hg, rfl, hs, he, hS⟩
    have hl2 := hS.len
    have h6 := hT.1
    have hev := even_sums hT hS
    rw [← hl2]
    simp -implicitDefEqProofs (disch := omega) only [List.any_cons, List.any_nil, Nat.reduceEqDiff, List.map_cons, List.map_nil, Option.map_some, Option.map_none, List.nil_append, ↓reduceIte, vcu, ↓vcd, opK_some]
    refine vc_loop_c mixed (by kernel_rfl) [3, 11, 12] (fun m a σ' => ∃ k : Nat, m + k = S.length ∧ a 13 = .int .i64 k ∧ σ' = τ ∧ ∀ i, i < k → S.getD i 0 = S.getD 0 0) S.length ⟨0, by simp, rfl, rfl, by simp⟩ ?_
    rintro m a σ' hc ⟨k, hk, h13, rfl, hall⟩
    simp -implicitDefEqProofs (disch := omega) only [List.any_cons, List.any_nil, Nat.reduceEqDiff, List.map_cons, List.map_nil, Option.map_some, Option.map_none, List.nil_append, ↓reduceIte, vcu, ↓vcd] at hc
    obtain ⟨h3, h11, h12, -⟩ := hc
    by_cases hlt : k < S.length
    · have hx := own_at he hlt
      have hx0 : ld σ' g (0 + Int.toNat 0) = some (.int .i64 (S.getD 0 0)) := own_at he (show 0 < S.length by omega)
      by_cases hq : S.getD k 0 = S.getD 0 0
      · simp -implicitDefEqProofs (disch := omega) only [List.any_cons, List.any_nil, Nat.reduceEqDiff, List.map_cons, List.map_nil, Option.map_some, Option.map_none, List.nil_append, ↓reduceIte, vcu, ↓vcd, h3, h11, h12, h13, hx, hx0, hq, ne_eq, not_true_eq_false, decide_false]
        refine ⟨⟨trivial, trivial, trivial, trivial⟩, m - 1, by omega, k + 1, by omega, by simp, trivial, fun i hi => ?_⟩
        by_cases e : i = k
        · subst e; exact hq
        · exact hall i (by omega)
      · simp -implicitDefEqProofs (disch := omega) only [List.any_cons, List.any_nil, Nat.reduceEqDiff, List.map_cons, List.map_nil, Option.map_some, Option.map_none, List.nil_append, ↓reduceIte, vcu, ↓vcd, h3, h11, h12, h13, hx, hx0, hq, ne_eq, not_false_eq_true, decide_true]
        refine fin_one Try.results34 ⟨?_, hs⟩
        simp -implicitDefEqProofs (disch := omega) only [List.any_cons, List.any_nil, Nat.reduceEqDiff, List.map_cons, List.map_nil, Option.map_some, Option.map_none, List.nil_append, ↓reduceIte, vcu, ↓vcd]
        rw [decide_eq_false (fun hE => hq (hev.1 hE k hlt))]
    · simp -implicitDefEqProofs (disch := omega) only [List.any_cons, List.any_nil, Nat.reduceEqDiff, List.map_cons, List.map_nil, Option.map_some, Option.map_none, List.nil_append, ↓reduceIte, vcu, ↓vcd, h3, h11, h12, h13]
      refine fin_one Try.results34 ⟨?_, hs⟩
      simp -implicitDefEqProofs (disch := omega) only [List.any_cons, List.any_nil, Nat.reduceEqDiff, List.map_cons, List.map_nil, Option.map_some, Option.map_none, List.nil_append, ↓reduceIte, vcu, ↓vcd]
      rw [decide_eq_true (hev.2 fun i hi => hall i (by omega))]
  · rw [decide_eq_false hT, decide_eq_false (fun hE : EvenT rows => hT hE.1)]
    simp -implicitDefEqProofs (disch := omega) only [List.any_cons, List.any_nil, Nat.reduceEqDiff, List.map_cons, List.map_nil, Option.map_some, Option.map_none, List.nil_append, ↓reduceIte, vcu, ↓vcd, opK_some]
    refine fin_one Try.results34 ⟨?_, Sub.refl _⟩
    simp -implicitDefEqProofs (disch := omega) only [List.any_cons, List.any_nil, Nat.reduceEqDiff, List.map_cons, List.map_nil, Option.map_some, Option.map_none, List.nil_append, ↓reduceIte, vcu, ↓vcd]
end Go.Proofs.Ytpcbgdgfdfpapaa

/- The program: rows cut from one list. -/
import Derived.Test.YtpcbgdgfdfpapaaJb
set_option linter.unusedSimpArgs false
set_option linter.unusedVariables false
namespace Go.Proofs.Ytpcbgdgfdfpapaa
open Go Go.Abs Go.RowKit Go.Frames
variable {w0 : World}

/-- a list in m rows of k -/
def chunk (xs : List Int) (m k : Nat) : List (List Int) := (List.range m).map fun i => (xs.drop (i * k)).take k
theorem chunk_length (xs : List Int) (m k : Nat) : (chunk xs m k).length = m := by simp [chunk]
theorem chunk_getD (xs : List Int) {m k i : Nat} (h : i < m) : (chunk xs m k).getD i [] = (xs.drop (i * k)).take k := by simp [chunk, List.getD, h]
theorem chunk_row (xs : List Int) {m k i : Nat} (h : i < m) (hl : m * k ≤ xs.length) : ((chunk xs m k).getD i []).length = k := by
  rw [chunk_getD xs h, List.length_take, List.length_drop]
  have := mul_part h hl
  omega
theorem chunk_flat (k : Nat) : ∀ rows : List (List Int), (∀ row ∈ rows, row.length = k) → chunk rows.flatten rows.length k = rows
  | [], _ => rfl
  | r :: rows, h => by
    have hr := h r (by simp)
    have ih := chunk_flat k rows fun row hm => h row (by simp [hm])
    unfold chunk at ih ⊢
    rw [List.length_cons, List.range_succ_eq_map, List.map_cons, List.map_map]
    congr 1
    · rw [Nat.zero_mul, List.drop_zero, List.flatten_cons, List.take_append_of_le_length (by omega), List.take_of_length_le (by omega)]
    · refine Eq.trans (List.map_congr_left fun i _ => ?_) ih
      show ((r :: rows).flatten.drop ((i + 1) * k)).take k = _
      rw [List.flatten_cons, Nat.add_mul, Nat.one_mul, Nat.add_comm (i * k) k, ← List.drop_drop, List.drop_append_of_le_length (by omega), show r.drop k = [] from List.drop_eq_nil_of_le (by omega), List.nil_append]

/-- the parts of the list H -/
def parts (H k i : Nat) : List Value := (List.range i).map fun j => .slice (some ⟨H, j * k, some k⟩) k 1
theorem parts_succ (H k i : Nat) : parts H k (i + 1) = parts H k i ++ [.slice (some ⟨H, i * k, some k⟩) k 1] := by simp [parts, List.range_succ]
theorem parts_length (H k i : Nat) : (parts H k i).length = i := by simp [parts]

theorem cutNone_at (σ : AHeap) (ad : Option Addr) (z k : Nat) :
    ACall Try.prog w0 63 [.slice ad 0 z, .int .i64 k] σ fun r σ' => r = .slice none 0 0 ∧ σ' = σ := by
  refine acall_go mixed Try.func63 rfl good63 fun pr => ?_
  simp -implicitDefEqProofs (disch := omega) only [List.any_cons, List.any_nil, Nat.reduceEqDiff, List.map_cons, List.map_nil, Option.map_some, Option.map_none, List.nil_append, ↓reduceIte, vcu, ↓vcd]
  refine vc_loop_c mixed (by kernel_rfl) [0] (fun m a σ' => a 5 = .slice none 0 0 ∧ a 6 = .int .i64 0 ∧ σ' = σ) 0 ⟨rfl, rfl, rfl⟩ ?_
  rintro m a σ' hc ⟨h5, h6, rfl⟩
  simp -implicitDefEqProofs (disch := omega) only [List.any_cons, List.any_nil, Nat.reduceEqDiff, List.map_cons, List.map_nil, Option.map_some, Option.map_none, List.nil_append, ↓reduceIte, vcu, ↓vcd] at hc
  obtain ⟨h0, -⟩ := hc
  simp -implicitDefEqProofs (disch := omega) only [List.any_cons, List.any_nil, Nat.reduceEqDiff, List.map_cons, List.map_nil, Option.map_some, Option.map_none, List.nil_append, ↓reduceIte, vcu, ↓vcd, h0, h5, h6, Int.natCast_zero]
  refine fin_one Try.results63 ⟨?_, rfl⟩
  simp -implicitDefEqProofs (disch := omega) only [List.any_cons, List.any_nil, Nat.reduceEqDiff, List.map_cons, List.map_nil, Option.map_some, Option.map_none, List.nil_append, ↓reduceIte, vcu, ↓vcd, h5]

theorem cutSome_at (β σ : AHeap) (hs : Sub β σ) (H m k : Nat) (xs : List Int) (hH : σ H = some ⟨ints .i64 xs, false⟩) (hβ : β H = none) (hlen : xs.length = m * k) (hk : 0 < k) (hm : 0 < m) (hl : xs.length ≤ 1000) :
    ACall Try.prog w0 63 [.slice (some ⟨H, 0, none⟩) (m * k) 1, .int .i64 k] σ fun r σ' => Sub β σ' ∧ ∃ g q, r = .slice (some ⟨g, 0, none⟩) m 1 ∧ OwnT β σ' g q (chunk xs m k) := by
  have hkk : k ≤ 1000 := by have := Nat.mul_le_mul_right k hm; omega
  have hmm : m ≤ 1000 := by have := Nat.mul_le_mul_left m hk; omega
  refine ACall.cut (R := fun r σ' => ∃ G, r = .slice (some ⟨G, 0, none⟩) m 1 ∧ σ' G = some ⟨parts H k m, false⟩ ∧ σ G = none ∧ Sub σ σ') ?_ ?_
  · refine acall_go mixed Try.func63 rfl good63 fun pr => ?_
    simp -implicitDefEqProofs (disch := omega) only [List.any_cons, List.any_nil, Nat.reduceEqDiff, List.map_cons, List.map_nil, Option.map_some, Option.map_none, List.nil_append, ↓reduceIte, vcu, ↓vcd]
    refine vc_loop_c mixed (by kernel_rfl) [0, 1] (fun w a σ' => ∃ i : Nat, w + i = m ∧ a 6 = .int .i64 ((i * k : Nat) : Int) ∧ Sub σ σ' ∧ ((i = 0 ∧ a 5 = .slice none 0 0) ∨ ∃ G, a 5 = .slice (some ⟨G, 0, none⟩) i 1 ∧ σ' G = some ⟨parts H k i, false⟩ ∧ σ G = none)) m ⟨0, by simp, by simp -implicitDefEqProofs (disch := omega) only [List.any_cons, List.any_nil, Nat.reduceEqDiff, List.map_cons, List.map_nil, Option.map_some, Option.map_none, List.nil_append, ↓reduceIte, vcu, ↓vcd]; simp, Sub.refl _, .inl ⟨rfl, rfl⟩⟩ ?_
    rintro w a σ' hc ⟨i, hi, h6, hs', h5⟩
    simp -implicitDefEqProofs (disch := omega) only [List.any_cons, List.any_nil, Nat.reduceEqDiff, List.map_cons, List.map_nil, Option.map_some, Option.map_none, List.nil_append, ↓reduceIte, vcu, ↓vcd] at hc
    obtain ⟨h0, h1, -⟩ := hc
    by_cases hlt : i < m
    · have hik := mul_part hlt (Nat.le_refl (m * k))
      have hnx : (i + 1) * k = i * k + k := by rw [Nat.add_mul, Nat.one_mul]
      have hps := parts_succ H k i
      generalize hP : i * k = p at h6 hik hnx hps
      simp -implicitDefEqProofs (disch := omega) only [List.any_cons, List.any_nil, Nat.reduceEqDiff, List.map_cons, List.map_nil, Option.map_some, Option.map_none, List.nil_append, ↓reduceIte, vcu, ↓vcd, h0, h1, h6]
      have hsum : (p : Int) + (k : Int) = ((p + k : Nat) : Int) := by omega
      rw [hsum]
      rw [r_slice3]
      refine ⟨3, .i64, .i64, .i64, p, p + k, p + k, Try.underlying30, .inl (by simp -implicitDefEqProofs (disch := omega) only [List.any_cons, List.any_nil, Nat.reduceEqDiff, List.map_cons, List.map_nil, Option.map_some, Option.map_none, List.nil_append, ↓reduceIte, vcu, ↓vcd, h6]), by simp -implicitDefEqProofs (disch := omega) only [List.any_cons, List.any_nil, Nat.reduceEqDiff, List.map_cons, List.map_nil, Option.map_some, Option.map_none, List.nil_append, ↓reduceIte, vcu, ↓vcd], by simp -implicitDefEqProofs (disch := omega) only [List.any_cons, List.any_nil, Nat.reduceEqDiff, List.map_cons, List.map_nil, Option.map_some, Option.map_none, List.nil_append, ↓reduceIte, vcu, ↓vcd], by omega, Nat.le_refl _, .inr (.inr (.inr ⟨H, 0, m * k, 1, by simp -implicitDefEqProofs (disch := omega) only [List.any_cons, List.any_nil, Nat.reduceEqDiff, List.map_cons, List.map_nil, Option.map_some, Option.map_none, List.nil_append, ↓reduceIte, vcu, ↓vcd, h0], co3.symm, hik, by omega, ?_⟩))⟩
      have e1 : p + k - p = k := by omega
      rw [e1, Nat.zero_add, Nat.mul_one]
      show vcRH Try.prog _ false _ _ _ _ _
      rw [vcRH_eq]
      refine r_lit el23 (out := #[.slice (some ⟨H, p, some k⟩) k 1]) (by simp -implicitDefEqProofs (disch := omega) only [List.any_cons, List.any_nil, Nat.reduceEqDiff, List.map_cons, List.map_nil, Option.map_some, Option.map_none, List.nil_append, ↓reduceIte, vcu, ↓vcd]; kernel_rfl) (by kernel_rfl) fun e4 σ4 n4 s4 v4 => ?_
      rcases h5 with ⟨rfl, h5⟩ | ⟨G, h5, vG, nG⟩
      · refine r_push_nil (D := [.slice (some ⟨H, p, some k⟩) k 1]) el23 sl23 (by simp -implicitDefEqProofs (disch := omega) only [List.any_cons, List.any_nil, Nat.reduceEqDiff, List.map_cons, List.map_nil, Option.map_some, Option.map_none, List.nil_append, ↓reduceIte, vcu, ↓vcd, h5]) (by simp -implicitDefEqProofs (disch := omega) only [List.any_cons, List.any_nil, Nat.reduceEqDiff, List.map_cons, List.map_nil, Option.map_some, Option.map_none, List.nil_append, ↓reduceIte, vcu, ↓vcd]; simp [acells, lds, v4]) (by simp) fun g' τ h1' h2' h3' => ?_
        have hs4 := hs'.trans s4
        simp -implicitDefEqProofs (disch := omega) only [List.any_cons, List.any_nil, Nat.reduceEqDiff, List.map_cons, List.map_nil, Option.map_some, Option.map_none, List.nil_append, ↓reduceIte, vcu, ↓vcd, h0, h1, h6, hsum]
        refine ⟨by simp [h0, h1], w - 1, by omega, 1, by omega, by rw [← hnx], hs4.trans h2', .inr ⟨g', by simp, ?_, free_sub hs4 h1'⟩⟩
        rw [h3']
        congr 2
        rw [hps]; rfl
      · refine r_push (C := parts H k i) (g := G) (len := i) (D := [.slice (some ⟨H, p, some k⟩) k 1]) el23 sl23 (by simp -implicitDefEqProofs (disch := omega) only [List.any_cons, List.any_nil, Nat.reduceEqDiff, List.map_cons, List.map_nil, Option.map_some, Option.map_none, List.nil_append, ↓reduceIte, vcu, ↓vcd, h5]) (s4 _ _ vG) (by rw [parts_length]; omega) (by simp -implicitDefEqProofs (disch := omega) only [List.any_cons, List.any_nil, Nat.reduceEqDiff, List.map_cons, List.map_nil, Option.map_some, Option.map_none, List.nil_append, ↓reduceIte, vcu, ↓vcd]; simp [acells, lds, v4]) (by rfl) (by simp; omega) fun g' τ h1' h2' h3' => ?_
        have hs4 := hs'.trans s4
        simp -implicitDefEqProofs (disch := omega) only [List.any_cons, List.any_nil, Nat.reduceEqDiff, List.map_cons, List.map_nil, Option.map_some, Option.map_none, List.nil_append, ↓reduceIte, vcu, ↓vcd, h0, h1, h6, hsum]
        refine ⟨by simp [h0, h1], w - 1, by omega, i + 1, by omega, by rw [hnx], h2'.sub hs4 nG, .inr ⟨g', by simp, ?_, free_sub hs4 h1'⟩⟩
        rw [h3', hps]
    · have e : i = m := by omega
      subst e
      rcases h5 with ⟨rfl, -⟩ | ⟨G, h5, vG, nG⟩
      · omega
      simp -implicitDefEqProofs (disch := omega) only [List.any_cons, List.any_nil, Nat.reduceEqDiff, List.map_cons, List.map_nil, Option.map_some, Option.map_none, List.nil_append, ↓reduceIte, vcu, ↓vcd, h0, h1, h5, h6]
      refine fin_one Try.results63 ⟨G, ?_, vG, nG, hs'⟩
      simp -implicitDefEqProofs (disch := omega) only [List.any_cons, List.any_nil, Nat.reduceEqDiff, List.map_cons, List.map_nil, Option.map_some, Option.map_none, List.nil_append, ↓reduceIte, vcu, ↓vcd, h5]
  · rintro r σ' ⟨G, rfl, vG, nG, hs'⟩
    have hHs := hs' _ _ hH
    have hGH : G ≠ H := ne_of nG hH
    refine ⟨G, H, m, k, _, _, vG, parts_length H k m, fun i hi => by simp [parts, hi], hHs, by rw [ints_length, hlen]; exact Nat.le_refl _, hGH, hk, fun N hN => ?_⟩
    have lt : ∀ x ob, σ' x = some ob → x < N := fun x ob e => by
      rcases Nat.lt_or_ge x N with h | h
      · exact h
      · rw [hN x h] at e; cases e
    have hGN := lt _ _ vG
    have hHN := lt _ _ hHs
    have hβσ := hs.trans hs'
    have hrow : ∀ i, i < m → cutH σ' G H N m k (ints .i64 xs) (N + i) = some ⟨ints .i64 ((chunk xs m k).getD i []), false⟩ := fun i hi => by
      unfold cutH
      rw [if_neg (by omega), if_neg (by omega), if_pos (by omega), Nat.add_sub_cancel_left, chunk_getD xs hi]
      simp [ints, List.map_take, List.map_drop]
    refine ⟨fun x ob hx => ?_, G, fun i => N + i, rfl, ⟨?_, free_sub hs nG, fun i hi => ?_, fun i hi => ?_, fun i hi => by omega, fun i j hi hj e => by omega⟩⟩
    · have hx' := hβσ _ _ hx
      have hxN := lt _ _ hx'
      unfold cutH
      rw [if_neg, if_neg, if_neg (by omega)]
      · exact hx'
      · rintro rfl; rw [hβ] at hx; cases hx
      · rintro rfl; rw [free_sub hs nG] at hx; cases hx
    · unfold cutH
      rw [if_pos rfl]
      congr 2
      unfold rowVs
      rw [chunk_length]
      refine List.map_congr_left fun i hi => ?_
      unfold rowV
      rw [chunk_row xs (by simpa using hi) (by omega)]
    · rw [chunk_length] at hi; exact hrow i hi
    · exact free_sub hβσ (hN _ (by omega))
/-- the rows of a list of one's own -/
theorem cut_calls (β σ : AHeap) (hs : Sub β σ) (v : Value) (m k : Nat) (xs : List Int) (hv : OwnI β σ v xs) (hlen : xs.length = m * k) (hk : 0 < k ∨ m = 0) (hl : xs.length ≤ 1000) :
    ACall Try.prog w0 63 [v, .int .i64 k] σ fun r σ' => Sub β σ' ∧ OwnTV β σ' r (chunk xs m k) := by
  have none : m = 0 → ∀ ad z, ACall Try.prog w0 63 [.slice ad 0 z, .int .i64 k] σ fun r σ' => Sub β σ' ∧ OwnTV β σ' r (chunk xs m k) := fun h0 ad z =>
    (cutNone_at σ ad z k).mono fun r σ' ⟨h1, h2⟩ => by subst h1; subst h2; subst h0; exact ⟨hs, .inl ⟨rfl, rfl⟩⟩
  rcases hv with ⟨rfl, rfl⟩ | ⟨H, rfl, hH, hβ⟩
  · refine none ?_ _ _
    rcases hk with h | h
    · rcases Nat.mul_eq_zero.1 hlen.symm with h2 | h2
      · exact h2
      · omega
    · exact h
  · by_cases h0 : m = 0
    · have : xs.length = 0 := by rw [hlen, h0, Nat.zero_mul]
      rw [this]; exact none h0 _ _
    · rw [hlen]
      refine (cutSome_at β σ hs H m k xs hH hβ hlen (by omega) (by omega) hl).mono ?_
      rintro r σ' ⟨h1, g, q, rfl, h2⟩
      exact ⟨h1, .inr ⟨g, q, by rw [chunk_length], h2⟩⟩
/-- the same, never nil -/
theorem cutN_calls (β σ : AHeap) (hs : Sub β σ) (v : Value) (m k : Nat) (xs : List Int) (hv : OwnI β σ v xs) (hlen : xs.length = m * k) (hk : 0 < k ∨ m = 0) (hl : xs.length ≤ 1000) :
    ACall Try.prog w0 63 [v, .int .i64 k] σ fun r σ' => Sub β σ' ∧ ∃ g q, r = .slice (some ⟨g, 0, none⟩) m 1 ∧ OwnT β σ' g q (chunk xs m k) := by
  refine (cut_calls β σ hs v m k xs hv hlen hk hl).named1 (z := 1) ?_
  rintro r σ' ⟨hs', ⟨rfl, e⟩ | ⟨g, q, rfl, hO⟩⟩
  · have hm : m = 0 := by rw [← chunk_length xs m k, e]; rfl
    refine .inr ⟨rfl, fun g hg => ⟨hs'.trans (sub_upd hg), g, fun _ => 0, by rw [hm], by rw [e]; exact OwnT.nil _ (AHeap.upd_same _ _ _) (free_sub hs' hg)⟩⟩
  · exact .inl ⟨hs', g, q, by rw [chunk_length], hO⟩
end Go.Proofs.Ytpcbgdgfdfpapaa

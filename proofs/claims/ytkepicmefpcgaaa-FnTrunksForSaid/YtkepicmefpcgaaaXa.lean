/- Lists of numbers: copies, comparisons, marks. -/
import Derived.Test.YtkepicmefpcgaaaFacts
set_option linter.unusedSimpArgs false
set_option linter.unusedVariables false
namespace Go.Proofs.Ytkepicmefpcgaaa
open Go Go.Abs Go.RowKit
variable {w0 : World}

def InR (x : Int) : Prop := -9223372036854775808 ≤ x ∧ x ≤ 9223372036854775807
theorem inR_of {z : Int} (h : (Lit.int .i64 z).wf = true) : InR z := by
  simpa [Lit.wf, IntKind.min, IntKind.max, IntKind.signed, IntKind.bits, InR] using h
theorem in_calls (σ : AHeap) (n lo hi : Int) : ACall Try.prog w0 48 [.int .i64 n, .int .i64 lo, .int .i64 hi] σ fun r σ' => r = .bool (decide (lo ≤ n ∧ n ≤ hi)) ∧ σ' = σ := by
  refine acall_go mixed Try.func48 rfl good48 fun pr => ?_
  by_cases h : lo ≤ n
  · simp -implicitDefEqProofs (disch := omega) only [List.any_cons, List.any_nil, Nat.reduceEqDiff, List.map_cons, List.map_nil, Option.map_some, Option.map_none, List.nil_append, ↓reduceIte, vcu, ↓vcd]
    refine fin_one Try.results48 ⟨?_, rfl⟩
    simp -implicitDefEqProofs (disch := omega) only [List.any_cons, List.any_nil, Nat.reduceEqDiff, List.map_cons, List.map_nil, Option.map_some, Option.map_none, List.nil_append, ↓reduceIte, vcu, ↓vcd]
    simp [h]
  · simp -implicitDefEqProofs (disch := omega) only [List.any_cons, List.any_nil, Nat.reduceEqDiff, List.map_cons, List.map_nil, Option.map_some, Option.map_none, List.nil_append, ↓reduceIte, vcu, ↓vcd]
    refine fin_one Try.results48 ⟨?_, rfl⟩
    simp -implicitDefEqProofs (disch := omega) only [List.any_cons, List.any_nil, Nat.reduceEqDiff, List.map_cons, List.map_nil, Option.map_some, Option.map_none, List.nil_append, ↓reduceIte, vcu, ↓vcd]
    simp [h]

theorem set_at {α : Type} (xs : List α) (d : α) {k n : Nat} (hk : k < xs.length) (hn : n = xs.length) : (xs.take k ++ List.replicate (n - k) d).set k (xs.getD k d) = xs.take (k + 1) ++ List.replicate (n - (k + 1)) d := by
  subst hn
  obtain ⟨m, hm⟩ : ∃ m, xs.length - k = m + 1 := ⟨xs.length - k - 1, by omega⟩
  have e : xs.length - (k + 1) = m := by omega
  rw [hm, e, List.set_append_right _ _ (by simp; omega), List.take_succ_eq_append_getElem hk, List.append_assoc]
  have : k - (xs.take k).length = 0 := by simp; omega
  rw [this]
  simp [List.getD, hk, List.replicate_succ]
theorem eqInts_at (σ : AHeap) (h o g p : Nat) (xs ys : List Int) (hv : IntsAt .i64 σ h o xs) (hu : IntsAt .i64 σ g p ys) (hl : xs.length ≤ 1048576) (hl2 : ys.length ≤ 1048576) :
    ACall Try.prog w0 43 [.slice (some ⟨h, o, none⟩) xs.length 1, .slice (some ⟨g, p, none⟩) ys.length 1] σ fun r σ' => r = .bool (decide (xs = ys)) ∧ σ' = σ := by
  refine acall_go mixed Try.func43 rfl good43 fun pr => ?_
  by_cases hlen : xs.length = ys.length
  · simp -implicitDefEqProofs (disch := omega) only [List.any_cons, List.any_nil, Nat.reduceEqDiff, List.map_cons, List.map_nil, Option.map_some, Option.map_none, List.nil_append, ↓reduceIte, vcu, ↓vcd]
    refine vc_loop_c mixed (by kernel_rfl) [0, 1] (fun m a σ' => ∃ k : Nat, m + k = xs.length ∧ a 5 = .int .i64 k ∧ σ' = σ ∧ ∀ j, j < k → xs.getD j 0 = ys.getD j 0) xs.length ⟨0, by simp, rfl, rfl, by simp⟩ ?_
    rintro m a σ' hc ⟨k, hk, h5, rfl, he⟩
    simp -implicitDefEqProofs (disch := omega) only [List.any_cons, List.any_nil, Nat.reduceEqDiff, List.map_cons, List.map_nil, Option.map_some, Option.map_none, List.nil_append, ↓reduceIte, vcu, ↓vcd] at hc
    obtain ⟨h0, h1, -⟩ := hc
    by_cases hlt : k < xs.length
    · have hx := hv k hlt
      have hy := hu k (by omega)
      by_cases hxy : xs.getD k 0 = ys.getD k 0
      · simp -implicitDefEqProofs (disch := omega) only [List.any_cons, List.any_nil, Nat.reduceEqDiff, List.map_cons, List.map_nil, Option.map_some, Option.map_none, List.nil_append, ↓reduceIte, vcu, ↓vcd, h0, h1, h5, hx, hy]
        refine ⟨⟨trivial, trivial, trivial⟩, m - 1, by omega, k + 1, by omega, by simp, trivial, fun j hj => ?_⟩
        by_cases e : j = k
        · subst e; exact hxy
        · exact he j (by omega)
      · simp -implicitDefEqProofs (disch := omega) only [List.any_cons, List.any_nil, Nat.reduceEqDiff, List.map_cons, List.map_nil, Option.map_some, Option.map_none, List.nil_append, ↓reduceIte, vcu, ↓vcd, h0, h1, h5, hx, hy]
        refine fin_one Try.results43 ⟨?_, rfl⟩
        simp -implicitDefEqProofs (disch := omega) only [List.any_cons, List.any_nil, Nat.reduceEqDiff, List.map_cons, List.map_nil, Option.map_some, Option.map_none, List.nil_append, ↓reduceIte, vcu, ↓vcd]
        have : xs ≠ ys := fun e => hxy (by rw [e])
        simp [this]
    · simp -implicitDefEqProofs (disch := omega) only [List.any_cons, List.any_nil, Nat.reduceEqDiff, List.map_cons, List.map_nil, Option.map_some, Option.map_none, List.nil_append, ↓reduceIte, vcu, ↓vcd, h0, h1, h5]
      refine fin_one Try.results43 ⟨?_, rfl⟩
      simp -implicitDefEqProofs (disch := omega) only [List.any_cons, List.any_nil, Nat.reduceEqDiff, List.map_cons, List.map_nil, Option.map_some, Option.map_none, List.nil_append, ↓reduceIte, vcu, ↓vcd]
      have : xs = ys := by
        apply List.ext_getElem hlen
        intro i h1 h2
        have := he i (by omega)
        simpa [List.getD, h1, h2] using this
      simp [this]
  · simp -implicitDefEqProofs (disch := omega) only [List.any_cons, List.any_nil, Nat.reduceEqDiff, List.map_cons, List.map_nil, Option.map_some, Option.map_none, List.nil_append, ↓reduceIte, vcu, ↓vcd]
    refine fin_one Try.results43 ⟨?_, rfl⟩
    simp -implicitDefEqProofs (disch := omega) only [List.any_cons, List.any_nil, Nat.reduceEqDiff, List.map_cons, List.map_nil, Option.map_some, Option.map_none, List.nil_append, ↓reduceIte, vcu, ↓vcd]
    have : xs ≠ ys := fun e => hlen (by rw [e])
    simp [this]
theorem eqInts_calls (σ : AHeap) (v u : Value) (xs ys : List Int) (hv : Ints .i64 σ v xs) (hu : Ints .i64 σ u ys) (hl : xs.length ≤ 1048576) (hl2 : ys.length ≤ 1048576) :
    ACall Try.prog w0 43 [v, u] σ fun r σ' => r = .bool (decide (xs = ys)) ∧ σ' = σ :=
  ACall.ints_quiet (pre := []) (post := [u]) (by kernel_rfl) hv fun σ1 h o hs hg =>
    ACall.ints_quiet (pre := [_]) (post := []) (by kernel_rfl) (hu.sub hs) fun σ2 g p hs2 hg2 => eqInts_at σ2 h o g p xs ys (hg.sub hs2) hg2 hl hl2
/-- each number from 0 on once -/
def Perm (xs : List Int) : Prop := (∀ x ∈ xs, 0 ≤ x ∧ x < xs.length) ∧ xs.Nodup
instance (xs : List Int) : Decidable (Perm xs) := by unfold Perm; infer_instance

theorem nodup_take {xs : List Int} : xs.Nodup ↔ ∀ j, j < xs.length → xs.getD j 0 ∉ xs.take j := by
  constructor
  · intro h j hj hm
    obtain ⟨i, hi, he⟩ := List.getElem_of_mem hm
    simp at hi
    have e1 : xs.getD j 0 = xs[j] := by simp [List.getD, hj]
    rw [e1, List.getElem_take] at he
    exact absurd ((List.getElem_inj h).1 he) (by omega)
  · intro h
    rw [List.nodup_iff_pairwise_ne, List.pairwise_iff_getElem]
    intro i j hi hj hij he
    refine h j hj ?_
    have e1 : xs.getD j 0 = xs[j] := by simp [List.getD, hj]
    rw [e1, ← he]
    rw [List.mem_take_iff_getElem]
    exact ⟨i, by omega, rfl⟩

theorem same_at (σ : AHeap) (h o g p : Nat) (xs ys : List Int) (hv : IntsAt .i64 σ h o xs) (hu : IntsAt .i64 σ g p ys) (hl : xs.length ≤ 1048576) (hl2 : ys.length ≤ 1048576) :
    ACall Try.prog w0 36 [.slice (some ⟨h, o, none⟩) xs.length 1, .slice (some ⟨g, p, none⟩) ys.length 1] σ fun r σ' => r = .bool (decide (xs = ys)) ∧ σ' = σ := by
  refine acall_go mixed Try.func36 rfl good36 fun pr => ?_
  by_cases hlen : xs.length = ys.length
  · simp -implicitDefEqProofs (disch := omega) only [List.any_cons, List.any_nil, Nat.reduceEqDiff, List.map_cons, List.map_nil, Option.map_some, Option.map_none, List.nil_append, ↓reduceIte, vcu, ↓vcd]
    refine vc_loop_c mixed (by kernel_rfl) [0, 1] (fun m a σ' => ∃ k : Nat, m + k = xs.length ∧ a 5 = .int .i64 k ∧ σ' = σ ∧ ∀ j, j < k → xs.getD j 0 = ys.getD j 0) xs.length ⟨0, by simp, rfl, rfl, by simp⟩ ?_
    rintro m a σ' hc ⟨k, hk, h5, rfl, he⟩
    simp -implicitDefEqProofs (disch := omega) only [List.any_cons, List.any_nil, Nat.reduceEqDiff, List.map_cons, List.map_nil, Option.map_some, Option.map_none, List.nil_append, ↓reduceIte, vcu, ↓vcd] at hc
    obtain ⟨h0, h1, -⟩ := hc
    by_cases hlt : k < xs.length
    · have hx := hv k hlt
      have hy := hu k (by omega)
      by_cases hxy : xs.getD k 0 = ys.getD k 0
      · simp -implicitDefEqProofs (disch := omega) only [List.any_cons, List.any_nil, Nat.reduceEqDiff, List.map_cons, List.map_nil, Option.map_some, Option.map_none, List.nil_append, ↓reduceIte, vcu, ↓vcd, h0, h1, h5, hx, hy]
        refine ⟨⟨trivial, trivial, trivial⟩, m - 1, by omega, k + 1, by omega, by simp, trivial, fun j hj => ?_⟩
        by_cases e : j = k
        · subst e; exact hxy
        · exact he j (by omega)
      · simp -implicitDefEqProofs (disch := omega) only [List.any_cons, List.any_nil, Nat.reduceEqDiff, List.map_cons, List.map_nil, Option.map_some, Option.map_none, List.nil_append, ↓reduceIte, vcu, ↓vcd, h0, h1, h5, hx, hy]
        refine fin_one Try.results36 ⟨?_, rfl⟩
        simp -implicitDefEqProofs (disch := omega) only [List.any_cons, List.any_nil, Nat.reduceEqDiff, List.map_cons, List.map_nil, Option.map_some, Option.map_none, List.nil_append, ↓reduceIte, vcu, ↓vcd]
        have : xs ≠ ys := fun e => hxy (by rw [e])
        simp [this]
    · simp -implicitDefEqProofs (disch := omega) only [List.any_cons, List.any_nil, Nat.reduceEqDiff, List.map_cons, List.map_nil, Option.map_some, Option.map_none, List.nil_append, ↓reduceIte, vcu, ↓vcd, h0, h1, h5]
      refine fin_one Try.results36 ⟨?_, rfl⟩
      simp -implicitDefEqProofs (disch := omega) only [List.any_cons, List.any_nil, Nat.reduceEqDiff, List.map_cons, List.map_nil, Option.map_some, Option.map_none, List.nil_append, ↓reduceIte, vcu, ↓vcd]
      have : xs = ys := by
        apply List.ext_getElem hlen
        intro i h1 h2
        have := he i (by omega)
        simpa [List.getD, h1, h2] using this
      simp [this]
  · simp -implicitDefEqProofs (disch := omega) only [List.any_cons, List.any_nil, Nat.reduceEqDiff, List.map_cons, List.map_nil, Option.map_some, Option.map_none, List.nil_append, ↓reduceIte, vcu, ↓vcd]
    refine fin_one Try.results36 ⟨?_, rfl⟩
    simp -implicitDefEqProofs (disch := omega) only [List.any_cons, List.any_nil, Nat.reduceEqDiff, List.map_cons, List.map_nil, Option.map_some, Option.map_none, List.nil_append, ↓reduceIte, vcu, ↓vcd]
    have : xs ≠ ys := fun e => hlen (by rw [e])
    simp [this]
theorem same_calls (σ : AHeap) (v u : Value) (xs ys : List Int) (hv : Ints .i64 σ v xs) (hu : Ints .i64 σ u ys) (hl : xs.length ≤ 1048576) (hl2 : ys.length ≤ 1048576) :
    ACall Try.prog w0 36 [v, u] σ fun r σ' => r = .bool (decide (xs = ys)) ∧ σ' = σ :=
  ACall.ints_quiet (pre := []) (post := [u]) (by kernel_rfl) hv fun σ1 h o hs hg =>
    ACall.ints_quiet (pre := [_]) (post := []) (by kernel_rfl) (hu.sub hs) fun σ2 g p hs2 hg2 => same_at σ2 h o g p xs ys (hg.sub hs2) hg2 hl hl2
def seq (k : Int) (n : Nat) : List Int := (List.range n).map fun (i : Nat) => k + i
theorem seq_length (k : Int) (n : Nat) : (seq k n).length = n := by simp [seq]
theorem seq_getD {k : Int} {n i : Nat} (h : i < n) : (seq k n).getD i 0 = k + i := by simp [seq, List.getD, h]
theorem seq_succ (k : Int) (n : Nat) : seq k (n + 1) = seq k n ++ [k + n] := by simp [seq, List.range_succ]
theorem set_seq {k : Int} {ys : List Int} {i : Nat} (h : i < ys.length) : (seq k i ++ ys.drop i).set i (k + i) = seq k (i + 1) ++ ys.drop (i + 1) := by
  rw [List.set_append_right _ _ (by rw [seq_length]; omega), seq_length, Nat.sub_self, seq_succ, List.append_assoc]
  congr 1
  rw [List.drop_eq_getElem_cons h]; rfl

theorem mark_own (σ : AHeap) (g : Nat) (ys : List Int) (k : Int) (hg : σ g = some ⟨ints .i64 ys, false⟩) (hl : ys.length ≤ 1048576) (hk : 0 ≤ k ∧ k ≤ 1099511627776) :
    ACall Try.prog w0 44 [.slice (some ⟨g, 0, none⟩) ys.length 1, .int .i64 k] σ fun r σ' => r = .int .i64 (k + ys.length) ∧ Kept g σ σ' ∧ σ' g = some ⟨ints .i64 (seq k ys.length), false⟩ := by
  refine acall_go mixed Try.func44 rfl good44 fun pr => ?_
  simp -implicitDefEqProofs (disch := omega) only [List.any_cons, List.any_nil, Nat.reduceEqDiff, List.map_cons, List.map_nil, Option.map_some, Option.map_none, List.nil_append, ↓reduceIte, vcu, ↓vcd]
  refine vc_loop_c mixed (by kernel_rfl) [0] (fun m a σ' => ∃ i : Nat, m + i = ys.length ∧ a 1 = .int .i64 (k + i) ∧ a 5 = .int .i64 i ∧ Kept g σ σ' ∧ σ' g = some ⟨ints .i64 (seq k i ++ ys.drop i), false⟩) ys.length ⟨0, by simp, by simp [fset, aenter], rfl, Kept.refl _ _, by simpa [seq] using hg⟩ ?_
  rintro m a σ' hc ⟨i, hi, h1, h5, hkp, hgk⟩
  simp -implicitDefEqProofs (disch := omega) only [List.any_cons, List.any_nil, Nat.reduceEqDiff, List.map_cons, List.map_nil, Option.map_some, Option.map_none, List.nil_append, ↓reduceIte, vcu, ↓vcd] at hc
  obtain ⟨h0, -⟩ := hc
  by_cases hlt : i < ys.length
  · have hll : (seq k i ++ ys.drop i).length = ys.length := by simp [seq_length]; omega
    simp -implicitDefEqProofs (disch := omega) only [List.any_cons, List.any_nil, Nat.reduceEqDiff, List.map_cons, List.map_nil, Option.map_some, Option.map_none, List.nil_append, ↓reduceIte, vcu, ↓vcd, h0, h1, h5]
    refine r_setI (g := g) (i := 0 + i) (v := k + i) (by simp -implicitDefEqProofs (disch := omega) only [List.any_cons, List.any_nil, Nat.reduceEqDiff, List.map_cons, List.map_nil, Option.map_some, Option.map_none, List.nil_append, ↓reduceIte, vcu, ↓vcd, h0]) (by simp -implicitDefEqProofs (disch := omega) only [List.any_cons, List.any_nil, Nat.reduceEqDiff, List.map_cons, List.map_nil, Option.map_some, Option.map_none, List.nil_append, ↓reduceIte, vcu, ↓vcd]) co3 hgk (by omega) fun τ1 k1 e1 => ?_
    rw [Nat.zero_add, set_seq hlt] at e1
    simp -implicitDefEqProofs (disch := omega) only [List.any_cons, List.any_nil, Nat.reduceEqDiff, List.map_cons, List.map_nil, Option.map_some, Option.map_none, List.nil_append, ↓reduceIte, vcu, ↓vcd, h0, h1, h5]
    refine ⟨⟨trivial, trivial⟩, m - 1, by omega, i + 1, by omega, ?_, by simp, hkp.trans k1, e1⟩
    congr 1; omega
  · simp -implicitDefEqProofs (disch := omega) only [List.any_cons, List.any_nil, Nat.reduceEqDiff, List.map_cons, List.map_nil, Option.map_some, Option.map_none, List.nil_append, ↓reduceIte, vcu, ↓vcd, h0, h1, h5]
    have e : i = ys.length := by omega
    subst e
    refine fin_one Try.results44 ⟨?_, hkp, by simpa using hgk⟩
    simp -implicitDefEqProofs (disch := omega) only [List.any_cons, List.any_nil, Nat.reduceEqDiff, List.map_cons, List.map_nil, Option.map_some, Option.map_none, List.nil_append, ↓reduceIte, vcu, ↓vcd, h1]
theorem held_at (σ : AHeap) (g o n : Nat) (k : Int) (hv : IntsAt .i64 σ g o (seq k n)) (hl : n ≤ 1048576) (hk : 0 ≤ k ∧ k ≤ 1099511627776) :
    ACall Try.prog w0 45 [.slice (some ⟨g, o, none⟩) n 1, .int .i64 k] σ fun r σ' => r = .int .i64 (k + n) ∧ σ' = σ := by
  refine acall_go mixed Try.func45 rfl good45 fun pr => ?_
  simp -implicitDefEqProofs (disch := omega) only [List.any_cons, List.any_nil, Nat.reduceEqDiff, List.map_cons, List.map_nil, Option.map_some, Option.map_none, List.nil_append, ↓reduceIte, vcu, ↓vcd]
  refine vc_loop_c mixed (by kernel_rfl) [0] (fun m a σ' => ∃ i : Nat, m + i = n ∧ a 1 = .int .i64 (k + i) ∧ a 5 = .int .i64 i ∧ σ' = σ) n ⟨0, by simp, by simp [fset, aenter], rfl, rfl⟩ ?_
  rintro m a σ' hc ⟨i, hi, h1, h5, rfl⟩
  simp -implicitDefEqProofs (disch := omega) only [List.any_cons, List.any_nil, Nat.reduceEqDiff, List.map_cons, List.map_nil, Option.map_some, Option.map_none, List.nil_append, ↓reduceIte, vcu, ↓vcd] at hc
  obtain ⟨h0, -⟩ := hc
  by_cases hlt : i < n
  · have hx := hv i (by rw [seq_length]; exact hlt)
    rw [seq_getD hlt] at hx
    simp -implicitDefEqProofs (disch := omega) only [List.any_cons, List.any_nil, Nat.reduceEqDiff, List.map_cons, List.map_nil, Option.map_some, Option.map_none, List.nil_append, ↓reduceIte, vcu, ↓vcd, h0, h1, h5, hx]
    refine ⟨⟨trivial, trivial⟩, m - 1, by omega, i + 1, by omega, ?_, by simp, trivial⟩
    congr 1; omega
  · simp -implicitDefEqProofs (disch := omega) only [List.any_cons, List.any_nil, Nat.reduceEqDiff, List.map_cons, List.map_nil, Option.map_some, Option.map_none, List.nil_append, ↓reduceIte, vcu, ↓vcd, h0, h1, h5]
    have e : i = n := by omega
    subst e
    refine fin_one Try.results45 ⟨?_, rfl⟩
    simp -implicitDefEqProofs (disch := omega) only [List.any_cons, List.any_nil, Nat.reduceEqDiff, List.map_cons, List.map_nil, Option.map_some, Option.map_none, List.nil_append, ↓reduceIte, vcu, ↓vcd, h1]
theorem markI_calls (β σ : AHeap) (v : Value) (xs : List Int) (k : Int) (hv : OwnI β σ v xs) (hl : xs.length ≤ 1048576) (hk : 0 ≤ k ∧ k ≤ 1099511627776) :
    ACall Try.prog w0 44 [v, .int .i64 k] σ fun r σ' => r = .int .i64 (k + xs.length) ∧ OwnI β σ' v (seq k xs.length) ∧ (∀ h ob, β h = some ob → σ h = some ob → σ' h = some ob) := by
  rcases hv with ⟨rfl, rfl⟩ | ⟨g, rfl, hg, hn⟩
  · refine ACall.nil_arg (pre := []) (z := 1) (by kernel_rfl) fun g hg => ?_
    refine (mark_own _ g [] k (AHeap.upd_same _ _ _) (by simp) hk).mono ?_
    rintro r σ' ⟨rfl, h1, h2⟩
    exact ⟨rfl, .inl ⟨rfl, rfl⟩, fun h ob _ e => h1 h ob (ne_of' hg e) (sub_upd hg h ob e)⟩
  · refine (mark_own σ g xs k hg hl hk).mono ?_
    rintro r σ' ⟨rfl, h1, h2⟩
    exact ⟨rfl, .inr ⟨g, by rw [seq_length], h2, hn⟩, fun h ob hb e => h1 h ob (ne_of' hn hb) e⟩
theorem heldI_calls (σ : AHeap) (v : Value) (n : Nat) (k : Int) (hv : Ints .i64 σ v (seq k n)) (hl : n ≤ 1048576) (hk : 0 ≤ k ∧ k ≤ 1099511627776) :
    ACall Try.prog w0 45 [v, .int .i64 k] σ fun r σ' => r = .int .i64 (k + n) ∧ σ' = σ :=
  ACall.ints_quiet (pre := []) (by kernel_rfl) hv fun σ1 g o _ hg => by
    rw [seq_length]; exact held_at σ1 g o n k hg hl hk
theorem r_pushO {b0 : Base} {P : Program} {a : AFrame} {σ β : AHeap} {K : AK} {all os : List Oper} {d : Nat} {ty : TypeId} {pos : String} {af : Array Edge} {t u : TypeId} {zv : Value} {b : Nat} {x y : Operand} {v : Value} {e o m : Nat} {cs ds : List Int}
    (hE : Elems P t 1 zv b) (hb : b ≤ 64) (hu : ∃ e2, P.underlying u = some (.slice e2)) (hs : Sub β σ) (hx : ev a x = v) (hv : OwnI β σ v cs) (hy : ev a y = .slice (some ⟨e, o, none⟩) m 1) (he : IntsAt .i64 σ e o ds) (hm : ds.length = m) (hl : cs.length + m ≤ 1048576)
    (hk : ∀ g' τ, Sub β τ → β g' = none → τ g' = some ⟨ints .i64 (cs ++ ds), false⟩ → vcR P b0 false all os (fset a d (.slice (some ⟨g', 0, none⟩) (cs.length + m) 1)) τ K) :
    vcR P b0 false all (⟨some d, .call ⟨.builtin .append, #[x, y], #[t, u]⟩, ty, pos, af, none⟩ :: os) a σ K := by
  rcases hv with ⟨rfl, rfl⟩ | ⟨g, rfl, hg, hn⟩
  · refine r_pushI_nil hE hb hu hx hy he hm (by simp at hl; omega) fun g' τ h1 h2 h3 => ?_
    have := hk g' τ (hs.trans h2) (free_sub hs h1) (by simpa using h3)
    simpa using this
  · refine r_pushI hE hb hu hx hg rfl hy he hm (by omega) fun g' τ h1 h2 h3 => ?_
    exact hk g' τ (h2.sub hs hn) (free_sub hs h1) h3
end Go.Proofs.Ytkepicmefpcgaaa

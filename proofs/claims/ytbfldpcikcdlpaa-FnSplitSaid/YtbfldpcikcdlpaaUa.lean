/- Rows and tables of one's own; marks; copies. -/
import Derived.Test.YtbfldpcikcdlpaaRb
import Derived.Test.YtbfldpcikcdlpaaTf
set_option linter.unusedSimpArgs false
set_option linter.unusedVariables false
namespace Go.Proofs.Ytbfldpcikcdlpaa
open Go Go.Abs Go.RowKit
variable {w0 : World}

/-- nil, or a row of its own that is newer than β -/
def OwnI (β σ : AHeap) (v : Value) (xs : List Int) : Prop := (v = .slice none 0 0 ∧ xs = []) ∨ ∃ g, v = .slice (some ⟨g, 0, none⟩) xs.length 1 ∧ σ g = some ⟨ints .i64 xs, false⟩ ∧ β g = none
theorem OwnI.ints {β σ : AHeap} {v : Value} {xs : List Int} (h : OwnI β σ v xs) : Ints .i64 σ v xs := h.imp id fun ⟨g, e, hg, _⟩ => ⟨g, 0, e, intsAt_own hg⟩
theorem OwnI.sub {β σ τ : AHeap} {v : Value} {xs : List Int} (h : OwnI β σ v xs) (hs : Sub σ τ) : OwnI β τ v xs := h.imp id fun ⟨g, e, hg, hn⟩ => ⟨g, e, hs _ _ hg, hn⟩
theorem OwnI.kept {β σ τ : AHeap} {v : Value} {xs : List Int} {k : Nat} {ob : AObj} (h : OwnI β σ v xs) (hk : Kept k σ τ) (hb : β k = some ob) : OwnI β τ v xs := h.imp id fun ⟨g, e, hg, hn⟩ => ⟨g, e, hk.at hg (ne_of hn hb), hn⟩

def seq (k : Int) (n : Nat) : List Int := (List.range n).map fun (i : Nat) => k + i
theorem seq_length (k : Int) (n : Nat) : (seq k n).length = n := by simp [seq]
theorem seq_getD {k : Int} {n i : Nat} (h : i < n) : (seq k n).getD i 0 = k + i := by simp [seq, List.getD, h]
theorem seq_succ (k : Int) (n : Nat) : seq k (n + 1) = seq k n ++ [k + n] := by simp [seq, List.range_succ]
theorem set_seq {k : Int} {ys : List Int} {i : Nat} (h : i < ys.length) : (seq k i ++ ys.drop i).set i (k + i) = seq k (i + 1) ++ ys.drop (i + 1) := by
  rw [List.set_append_right _ _ (by rw [seq_length]; omega), seq_length, Nat.sub_self, seq_succ, List.append_assoc]
  congr 1
  rw [List.drop_eq_getElem_cons h]; rfl

theorem mark_own (σ : AHeap) (g : Nat) (ys : List Int) (k : Int) (hg : σ g = some ⟨ints .i64 ys, false⟩) (hl : ys.length ≤ 1048576) (hk : 0 ≤ k ∧ k ≤ 1099511627776) :
    ACall Try.prog w0 43 [.slice (some ⟨g, 0, none⟩) ys.length 1, .int .i64 k] σ fun r σ' => r = .int .i64 (k + ys.length) ∧ Kept g σ σ' ∧ σ' g = some ⟨ints .i64 (seq k ys.length), false⟩ := by
  refine acall_go mixed Try.func43 rfl good43 ?_
  simp -implicitDefEqProofs (disch := omega) only [List.any_cons, List.any_nil, Nat.reduceEqDiff, List.map_cons, List.map_nil, Option.map_some, Option.map_none, List.nil_append, ↓reduceIte, vcu0, vcu1, vcu2, vcu3, vcu4, vcu5, vcu6, vcu7, vcu8, vcu9, vcu10, vcu11, vcu12, vcu13, vcu14, vcu15, vcu16, ↓vcd0, ↓vcd1, ↓vcd2, ↓vcd3]
  refine vc_loop_c mixed (by kernel_rfl) [0] (fun m a σ' => ∃ i : Nat, m + i = ys.length ∧ a 1 = .int .i64 (k + i) ∧ a 5 = .int .i64 i ∧ Kept g σ σ' ∧ σ' g = some ⟨ints .i64 (seq k i ++ ys.drop i), false⟩) ys.length ⟨0, by simp, by simp [fset, aenter], rfl, Kept.refl _ _, by simpa [seq] using hg⟩ ?_
  rintro m a σ' hc ⟨i, hi, h1, h5, hkp, hgk⟩
  simp -implicitDefEqProofs (disch := omega) only [List.any_cons, List.any_nil, Nat.reduceEqDiff, List.map_cons, List.map_nil, Option.map_some, Option.map_none, List.nil_append, ↓reduceIte, vcu0, vcu1, vcu2, vcu3, vcu4, vcu5, vcu6, vcu7, vcu8, vcu9, vcu10, vcu11, vcu12, vcu13, vcu14, vcu15, vcu16, ↓vcd0, ↓vcd1, ↓vcd2, ↓vcd3] at hc
  obtain ⟨h0, -⟩ := hc
  by_cases hlt : i < ys.length
  · have hll : (seq k i ++ ys.drop i).length = ys.length := by simp [seq_length]; omega
    simp -implicitDefEqProofs (disch := omega) only [List.any_cons, List.any_nil, Nat.reduceEqDiff, List.map_cons, List.map_nil, Option.map_some, Option.map_none, List.nil_append, ↓reduceIte, vcu0, vcu1, vcu2, vcu3, vcu4, vcu5, vcu6, vcu7, vcu8, vcu9, vcu10, vcu11, vcu12, vcu13, vcu14, vcu15, vcu16, ↓vcd0, ↓vcd1, ↓vcd2, ↓vcd3, h0, h1, h5]
    refine r_setI (g := g) (i := 0 + i) (v := k + i) (by simp -implicitDefEqProofs (disch := omega) only [List.any_cons, List.any_nil, Nat.reduceEqDiff, List.map_cons, List.map_nil, Option.map_some, Option.map_none, List.nil_append, ↓reduceIte, vcu0, vcu1, vcu2, vcu3, vcu4, vcu5, vcu6, vcu7, vcu8, vcu9, vcu10, vcu11, vcu12, vcu13, vcu14, vcu15, vcu16, ↓vcd0, ↓vcd1, ↓vcd2, ↓vcd3, h0]) (by simp -implicitDefEqProofs (disch := omega) only [List.any_cons, List.any_nil, Nat.reduceEqDiff, List.map_cons, List.map_nil, Option.map_some, Option.map_none, List.nil_append, ↓reduceIte, vcu0, vcu1, vcu2, vcu3, vcu4, vcu5, vcu6, vcu7, vcu8, vcu9, vcu10, vcu11, vcu12, vcu13, vcu14, vcu15, vcu16, ↓vcd0, ↓vcd1, ↓vcd2, ↓vcd3]) co3 hgk (by omega) fun τ1 k1 e1 => ?_
    rw [Nat.zero_add, set_seq hlt] at e1
    simp -implicitDefEqProofs (disch := omega) only [List.any_cons, List.any_nil, Nat.reduceEqDiff, List.map_cons, List.map_nil, Option.map_some, Option.map_none, List.nil_append, ↓reduceIte, vcu0, vcu1, vcu2, vcu3, vcu4, vcu5, vcu6, vcu7, vcu8, vcu9, vcu10, vcu11, vcu12, vcu13, vcu14, vcu15, vcu16, ↓vcd0, ↓vcd1, ↓vcd2, ↓vcd3, h0, h1, h5]
    refine ⟨⟨trivial, trivial⟩, m - 1, by omega, i + 1, by omega, ?_, by simp, hkp.trans k1, e1⟩
    congr 1; omega
  · simp -implicitDefEqProofs (disch := omega) only [List.any_cons, List.any_nil, Nat.reduceEqDiff, List.map_cons, List.map_nil, Option.map_some, Option.map_none, List.nil_append, ↓reduceIte, vcu0, vcu1, vcu2, vcu3, vcu4, vcu5, vcu6, vcu7, vcu8, vcu9, vcu10, vcu11, vcu12, vcu13, vcu14, vcu15, vcu16, ↓vcd0, ↓vcd1, ↓vcd2, ↓vcd3, h0, h1, h5]
    have e : i = ys.length := by omega
    subst e
    refine fin_one Try.results43 ⟨?_, hkp, by simpa using hgk⟩
    simp -implicitDefEqProofs (disch := omega) only [List.any_cons, List.any_nil, Nat.reduceEqDiff, List.map_cons, List.map_nil, Option.map_some, Option.map_none, List.nil_append, ↓reduceIte, vcu0, vcu1, vcu2, vcu3, vcu4, vcu5, vcu6, vcu7, vcu8, vcu9, vcu10, vcu11, vcu12, vcu13, vcu14, vcu15, vcu16, ↓vcd0, ↓vcd1, ↓vcd2, ↓vcd3, h1]
theorem held_at (σ : AHeap) (g o n : Nat) (k : Int) (hv : IntsAt .i64 σ g o (seq k n)) (hl : n ≤ 1048576) (hk : 0 ≤ k ∧ k ≤ 1099511627776) :
    ACall Try.prog w0 44 [.slice (some ⟨g, o, none⟩) n 1, .int .i64 k] σ fun r σ' => r = .int .i64 (k + n) ∧ σ' = σ := by
  refine acall_go mixed Try.func44 rfl good44 ?_
  simp -implicitDefEqProofs (disch := omega) only [List.any_cons, List.any_nil, Nat.reduceEqDiff, List.map_cons, List.map_nil, Option.map_some, Option.map_none, List.nil_append, ↓reduceIte, vcu0, vcu1, vcu2, vcu3, vcu4, vcu5, vcu6, vcu7, vcu8, vcu9, vcu10, vcu11, vcu12, vcu13, vcu14, vcu15, vcu16, ↓vcd0, ↓vcd1, ↓vcd2, ↓vcd3]
  refine vc_loop_c mixed (by kernel_rfl) [0] (fun m a σ' => ∃ i : Nat, m + i = n ∧ a 1 = .int .i64 (k + i) ∧ a 5 = .int .i64 i ∧ σ' = σ) n ⟨0, by simp, by simp [fset, aenter], rfl, rfl⟩ ?_
  rintro m a σ' hc ⟨i, hi, h1, h5, rfl⟩
  simp -implicitDefEqProofs (disch := omega) only [List.any_cons, List.any_nil, Nat.reduceEqDiff, List.map_cons, List.map_nil, Option.map_some, Option.map_none, List.nil_append, ↓reduceIte, vcu0, vcu1, vcu2, vcu3, vcu4, vcu5, vcu6, vcu7, vcu8, vcu9, vcu10, vcu11, vcu12, vcu13, vcu14, vcu15, vcu16, ↓vcd0, ↓vcd1, ↓vcd2, ↓vcd3] at hc
  obtain ⟨h0, -⟩ := hc
  by_cases hlt : i < n
  · have hx := hv i (by rw [seq_length]; exact hlt)
    rw [seq_getD hlt] at hx
    simp -implicitDefEqProofs (disch := omega) only [List.any_cons, List.any_nil, Nat.reduceEqDiff, List.map_cons, List.map_nil, Option.map_some, Option.map_none, List.nil_append, ↓reduceIte, vcu0, vcu1, vcu2, vcu3, vcu4, vcu5, vcu6, vcu7, vcu8, vcu9, vcu10, vcu11, vcu12, vcu13, vcu14, vcu15, vcu16, ↓vcd0, ↓vcd1, ↓vcd2, ↓vcd3, h0, h1, h5, hx]
    refine ⟨⟨trivial, trivial⟩, m - 1, by omega, i + 1, by omega, ?_, by simp, trivial⟩
    congr 1; omega
  · simp -implicitDefEqProofs (disch := omega) only [List.any_cons, List.any_nil, Nat.reduceEqDiff, List.map_cons, List.map_nil, Option.map_some, Option.map_none, List.nil_append, ↓reduceIte, vcu0, vcu1, vcu2, vcu3, vcu4, vcu5, vcu6, vcu7, vcu8, vcu9, vcu10, vcu11, vcu12, vcu13, vcu14, vcu15, vcu16, ↓vcd0, ↓vcd1, ↓vcd2, ↓vcd3, h0, h1, h5]
    have e : i = n := by omega
    subst e
    refine fin_one Try.results44 ⟨?_, rfl⟩
    simp -implicitDefEqProofs (disch := omega) only [List.any_cons, List.any_nil, Nat.reduceEqDiff, List.map_cons, List.map_nil, Option.map_some, Option.map_none, List.nil_append, ↓reduceIte, vcu0, vcu1, vcu2, vcu3, vcu4, vcu5, vcu6, vcu7, vcu8, vcu9, vcu10, vcu11, vcu12, vcu13, vcu14, vcu15, vcu16, ↓vcd0, ↓vcd1, ↓vcd2, ↓vcd3, h1]
theorem markI_calls (β σ : AHeap) (v : Value) (xs : List Int) (k : Int) (hv : OwnI β σ v xs) (hl : xs.length ≤ 1048576) (hk : 0 ≤ k ∧ k ≤ 1099511627776) :
    ACall Try.prog w0 43 [v, .int .i64 k] σ fun r σ' => r = .int .i64 (k + xs.length) ∧ OwnI β σ' v (seq k xs.length) ∧ (∀ h ob, β h = some ob → σ h = some ob → σ' h = some ob) := by
  rcases hv with ⟨rfl, rfl⟩ | ⟨g, rfl, hg, hn⟩
  · refine ACall.nil_arg (pre := []) (z := 1) (by kernel_rfl) fun g hg => ?_
    refine (mark_own _ g [] k (AHeap.upd_same _ _ _) (by simp) hk).mono ?_
    rintro r σ' ⟨rfl, h1, h2⟩
    exact ⟨rfl, .inl ⟨rfl, rfl⟩, fun h ob _ e => h1 h ob (ne_of' hg e) (sub_upd hg h ob e)⟩
  · refine (mark_own σ g xs k hg hl hk).mono ?_
    rintro r σ' ⟨rfl, h1, h2⟩
    exact ⟨rfl, .inr ⟨g, by rw [seq_length], h2, hn⟩, fun h ob hb e => h1 h ob (ne_of' hn hb) e⟩
theorem heldI_calls (σ : AHeap) (v : Value) (n : Nat) (k : Int) (hv : Ints .i64 σ v (seq k n)) (hl : n ≤ 1048576) (hk : 0 ≤ k ∧ k ≤ 1099511627776) :
    ACall Try.prog w0 44 [v, .int .i64 k] σ fun r σ' => r = .int .i64 (k + n) ∧ σ' = σ :=
  ACall.ints_quiet (pre := []) (by kernel_rfl) hv fun σ1 g o _ hg => by
    rw [seq_length]; exact held_at σ1 g o n k hg hl hk

theorem clone_at (σ : AHeap) (h o : Nat) (xs : List Int) (hv : IntsAt .i64 σ h o xs) (hl : xs.length ≤ 1048576) :
    ACall Try.prog w0 65 [.slice (some ⟨h, o, none⟩) xs.length 1] σ fun r σ' => Sub σ σ' ∧ OwnI σ σ' r xs := by
  refine acall_go mixed Try.func65 rfl good65 ?_
  simp -implicitDefEqProofs (disch := omega) only [List.any_cons, List.any_nil, Nat.reduceEqDiff, List.map_cons, List.map_nil, Option.map_some, Option.map_none, List.nil_append, ↓reduceIte, vcu0, vcu1, vcu2, vcu3, vcu4, vcu5, vcu6, vcu7, vcu8, vcu9, vcu10, vcu11, vcu12, vcu13, vcu14, vcu15, vcu16, ↓vcd0, ↓vcd1, ↓vcd2, ↓vcd3]
  refine r_nilEq (b := some ⟨h, o, none⟩) (l := xs.length) (z := 1) Try.underlying27 (by simp -implicitDefEqProofs (disch := omega) only [List.any_cons, List.any_nil, Nat.reduceEqDiff, List.map_cons, List.map_nil, Option.map_some, Option.map_none, List.nil_append, ↓reduceIte, vcu0, vcu1, vcu2, vcu3, vcu4, vcu5, vcu6, vcu7, vcu8, vcu9, vcu10, vcu11, vcu12, vcu13, vcu14, vcu15, vcu16, ↓vcd0, ↓vcd1, ↓vcd2, ↓vcd3]) fun c _ h2 => ?_
  cases c with
  | true =>
    simp -implicitDefEqProofs (disch := omega) only [List.any_cons, List.any_nil, Nat.reduceEqDiff, List.map_cons, List.map_nil, Option.map_some, Option.map_none, List.nil_append, ↓reduceIte, vcu0, vcu1, vcu2, vcu3, vcu4, vcu5, vcu6, vcu7, vcu8, vcu9, vcu10, vcu11, vcu12, vcu13, vcu14, vcu15, vcu16, ↓vcd0, ↓vcd1, ↓vcd2, ↓vcd3]
    have : xs = [] := by
      cases xs with
      | nil => rfl
      | cons x xs => have := h2 (by simp); cases this
    subst this
    refine fin_one Try.results65 ⟨Sub.refl _, .inl ⟨?_, rfl⟩⟩
    simp -implicitDefEqProofs (disch := omega) only [List.any_cons, List.any_nil, Nat.reduceEqDiff, List.map_cons, List.map_nil, Option.map_some, Option.map_none, List.nil_append, ↓reduceIte, vcu0, vcu1, vcu2, vcu3, vcu4, vcu5, vcu6, vcu7, vcu8, vcu9, vcu10, vcu11, vcu12, vcu13, vcu14, vcu15, vcu16, ↓vcd0, ↓vcd1, ↓vcd2, ↓vcd3]
  | false =>
    simp -implicitDefEqProofs (disch := omega) only [List.any_cons, List.any_nil, Nat.reduceEqDiff, List.map_cons, List.map_nil, Option.map_some, Option.map_none, List.nil_append, ↓reduceIte, vcu0, vcu1, vcu2, vcu3, vcu4, vcu5, vcu6, vcu7, vcu8, vcu9, vcu10, vcu11, vcu12, vcu13, vcu14, vcu15, vcu16, ↓vcd0, ↓vcd1, ↓vcd2, ↓vcd3]
    refine r_lit el27 (out := #[]) (by kernel_rfl) (by kernel_rfl) fun e1 τ1 n1 s1 v1 => ?_
    simp -implicitDefEqProofs (disch := omega) only [List.any_cons, List.any_nil, Nat.reduceEqDiff, List.map_cons, List.map_nil, Option.map_some, Option.map_none, List.nil_append, ↓reduceIte, vcu0, vcu1, vcu2, vcu3, vcu4, vcu5, vcu6, vcu7, vcu8, vcu9, vcu10, vcu11, vcu12, vcu13, vcu14, vcu15, vcu16, ↓vcd0, ↓vcd1, ↓vcd2, ↓vcd3]
    refine r_pushI (g := e1) (e := h) (o := o) (k := .i64) (xs := []) (ys := xs) (m := xs.length) (len := 0) el27 (by omega) sl27 (by simp -implicitDefEqProofs (disch := omega) only [List.any_cons, List.any_nil, Nat.reduceEqDiff, List.map_cons, List.map_nil, Option.map_some, Option.map_none, List.nil_append, ↓reduceIte, vcu0, vcu1, vcu2, vcu3, vcu4, vcu5, vcu6, vcu7, vcu8, vcu9, vcu10, vcu11, vcu12, vcu13, vcu14, vcu15, vcu16, ↓vcd0, ↓vcd1, ↓vcd2, ↓vcd3]) v1 rfl (by simp -implicitDefEqProofs (disch := omega) only [List.any_cons, List.any_nil, Nat.reduceEqDiff, List.map_cons, List.map_nil, Option.map_some, Option.map_none, List.nil_append, ↓reduceIte, vcu0, vcu1, vcu2, vcu3, vcu4, vcu5, vcu6, vcu7, vcu8, vcu9, vcu10, vcu11, vcu12, vcu13, vcu14, vcu15, vcu16, ↓vcd0, ↓vcd1, ↓vcd2, ↓vcd3]) (hv.sub s1) rfl (by omega) fun g τ2 n2 k2 v2 => ?_
    rw [List.nil_append] at v2
    simp -implicitDefEqProofs (disch := omega) only [List.any_cons, List.any_nil, Nat.reduceEqDiff, List.map_cons, List.map_nil, Option.map_some, Option.map_none, List.nil_append, ↓reduceIte, vcu0, vcu1, vcu2, vcu3, vcu4, vcu5, vcu6, vcu7, vcu8, vcu9, vcu10, vcu11, vcu12, vcu13, vcu14, vcu15, vcu16, ↓vcd0, ↓vcd1, ↓vcd2, ↓vcd3, Nat.zero_add]
    refine fin_one Try.results65 ⟨k2.sub s1 n1, .inr ⟨g, ?_, v2, free_sub s1 n2⟩⟩
    simp -implicitDefEqProofs (disch := omega) only [List.any_cons, List.any_nil, Nat.reduceEqDiff, List.map_cons, List.map_nil, Option.map_some, Option.map_none, List.nil_append, ↓reduceIte, vcu0, vcu1, vcu2, vcu3, vcu4, vcu5, vcu6, vcu7, vcu8, vcu9, vcu10, vcu11, vcu12, vcu13, vcu14, vcu15, vcu16, ↓vcd0, ↓vcd1, ↓vcd2, ↓vcd3]


def rowV (q : Nat) (row : List Int) : Value := .slice (some ⟨q, 0, none⟩) row.length 1
def rowVs (q : Nat → Nat) (rows : List (List Int)) : List Value := (List.range rows.length).map fun i => rowV (q i) (rows.getD i [])
theorem rowVs_length (q : Nat → Nat) (rows : List (List Int)) : (rowVs q rows).length = rows.length := by simp [rowVs]
theorem rowVs_get {q : Nat → Nat} {rows : List (List Int)} {i : Nat} (h : i < rows.length) : (rowVs q rows)[i]? = some (rowV (q i) (rows.getD i [])) := by simp [rowVs, h]
/-- a table of its own, newer than β: rows of their own, each another one -/
structure OwnT (β σ : AHeap) (g : Nat) (q : Nat → Nat) (rows : List (List Int)) : Prop where
  at_ : σ g = some ⟨rowVs q rows, false⟩
  new : β g = none
  row : ∀ i, i < rows.length → σ (q i) = some ⟨ints .i64 (rows.getD i []), false⟩
  free : ∀ i, i < rows.length → β (q i) = none
  ne : ∀ i, i < rows.length → q i ≠ g
  inj : ∀ i j, i < rows.length → j < rows.length → q i = q j → i = j
theorem OwnT.get {β σ : AHeap} {g : Nat} {q : Nat → Nat} {rows : List (List Int)} (h : OwnT β σ g q rows) {i : Nat} (hi : i < rows.length) : ld σ g (0 + i) = some (.slice (some ⟨q i, 0, none⟩) (rows.getD i []).length 1) := by
  unfold ld; rw [h.at_, Nat.zero_add]; exact rowVs_get hi
theorem OwnT.rows {β σ : AHeap} {g : Nat} {q : Nat → Nat} {rows : List (List Int)} (h : OwnT β σ g q rows) : RowsAt σ g 0 rows := fun i hi => ⟨_, h.get hi, .inr ⟨q i, 0, rfl, intsAt_own (h.row i hi)⟩⟩
theorem OwnT.keep {β σ τ : AHeap} {g : Nat} {q : Nat → Nat} {rows : List (List Int)} (h : OwnT β σ g q rows) (hk : ∀ k ob, β k = none → σ k = some ob → τ k = some ob) : OwnT β τ g q rows :=
  ⟨hk _ _ h.new h.at_, h.new, fun i hi => hk _ _ (h.free i hi) (h.row i hi), h.free, h.ne, h.inj⟩
theorem OwnT.sub {β σ τ : AHeap} {g : Nat} {q : Nat → Nat} {rows : List (List Int)} (h : OwnT β σ g q rows) (hs : Sub σ τ) : OwnT β τ g q rows := h.keep fun k ob _ e => hs k ob e
theorem OwnT.base {β β' σ : AHeap} {g : Nat} {q : Nat → Nat} {rows : List (List Int)} (h : OwnT β σ g q rows) (hs : Sub β' β) : OwnT β' σ g q rows :=
  ⟨h.at_, free_sub hs h.new, h.row, fun i hi => free_sub hs (h.free i hi), h.ne, h.inj⟩
theorem getD_setL {rows : List (List Int)} {i : Nat} (hi : i < rows.length) (ys : List Int) (j : Nat) : (rows.set i ys).getD j [] = if j = i then ys else rows.getD j [] := by
  simp only [List.getD, List.getElem?_set]
  by_cases e : i = j
  · subst e; simp [hi]
  · rw [if_neg e, if_neg (fun h => e h.symm)]
theorem getD_appL (rows : List (List Int)) (ys : List Int) (j : Nat) : (rows ++ [ys]).getD j [] = if j = rows.length then ys else rows.getD j [] := by
  simp only [List.getD, List.getElem?_append]
  by_cases h1 : j < rows.length
  · rw [if_pos h1, if_neg (by omega)]
  · rw [if_neg h1]
    by_cases h2 : j = rows.length
    · subst h2; simp
    · rw [if_neg h2, List.getElem?_eq_none (by simp; omega), List.getElem?_eq_none (by omega)]
/-- one of its rows is written -/
theorem OwnT.write {β σ τ : AHeap} {g : Nat} {q : Nat → Nat} {rows : List (List Int)} (h : OwnT β σ g q rows) {i : Nat} (hi : i < rows.length) {ys : List Int} (hl : ys.length = (rows.getD i []).length)
    (hk : Kept (q i) σ τ) (he : τ (q i) = some ⟨ints .i64 ys, false⟩) : OwnT β τ g q (rows.set i ys) := by
  have hlen : (rows.set i ys).length = rows.length := List.length_set
  refine ⟨?_, h.new, fun j hj => ?_, fun j hj => h.free j (by omega), fun j hj => h.ne j (by omega), fun a b ha hb => h.inj a b (by omega) (by omega)⟩
  · rw [hk.at h.at_ (h.ne i hi).symm]
    congr 2
    unfold rowVs
    rw [hlen]
    apply List.map_congr_left
    intro j hj
    rw [getD_setL hi]
    split
    · rename_i e; subst e; unfold rowV; rw [hl]
    · rfl
  · rw [getD_setL hi]
    split
    · rename_i e; subst e; exact he
    · rename_i e
      exact hk.at (h.row j (by omega)) (fun e2 => e (h.inj j i (by omega) hi e2))
theorem rowVs_push {q : Nat → Nat} {rows : List (List Int)} {r : Nat} {row : List Int} : rowVs (fun i => if i = rows.length then r else q i) (rows ++ [row]) = rowVs q rows ++ [rowV r row] := by
  unfold rowVs
  rw [List.length_append, List.length_singleton, List.range_succ, List.map_append, List.map_singleton, getD_appL, if_pos rfl]
  dsimp only
  rw [if_pos rfl]
  congr 1
  apply List.map_congr_left
  intro j hj
  have hj := List.mem_range.1 hj
  rw [if_neg (by omega), getD_appL, if_neg (by omega)]
/-- a row of its own is put behind the others -/
theorem OwnT.push {β σ τ : AHeap} {g g' r : Nat} {q : Nat → Nat} {rows : List (List Int)} {row : List Int} (h : OwnT β σ g q rows) (hr : σ r = some ⟨ints .i64 row, false⟩) (hb : β r = none) (hg : r ≠ g) (hq : ∀ i, i < rows.length → q i ≠ r)
    (hn : σ g' = none) (hbg : β g' = none) (hk : Kept g σ τ) (he : τ g' = some ⟨rowVs q rows ++ [rowV r row], false⟩) : OwnT β τ g' (fun i => if i = rows.length then r else q i) (rows ++ [row]) := by
  have hl : (rows ++ [row]).length = rows.length + 1 := by simp
  refine ⟨by rw [rowVs_push]; exact he, hbg, fun i hi => ?_, fun i hi => ?_, fun i hi => ?_, fun i j hi hj => ?_⟩
  · rw [getD_appL]
    split
    · exact hk.at hr hg
    · exact hk.at (h.row i (by omega)) (h.ne i (by omega))
  · split
    · exact hb
    · exact h.free i (by omega)
  · split
    · exact ne_of' hn hr
    · exact ne_of' hn (h.row i (by omega))
  · intro e
    split at e
    · split at e
      · omega
      · exact absurd e.symm (hq j (by omega))
    · split at e
      · exact absurd e (hq i (by omega))
      · exact h.inj i j (by omega) (by omega) e
theorem OwnT.nil {β σ : AHeap} {g : Nat} (q : Nat → Nat) (hg : σ g = some ⟨[], false⟩) (hb : β g = none) : OwnT β σ g q [] :=
  ⟨hg, hb, fun i hi => absurd hi (by simp), fun i hi => absurd hi (by simp), fun i hi => absurd hi (by simp), fun i j hi => absurd hi (by simp)⟩
/-- nil, or a table of its own -/
def OwnTV (β σ : AHeap) (v : Value) (rows : List (List Int)) : Prop := (v = .slice none 0 0 ∧ rows = []) ∨ ∃ g q, v = .slice (some ⟨g, 0, none⟩) rows.length 1 ∧ OwnT β σ g q rows
theorem OwnTV.rowsV {β σ : AHeap} {v : Value} {rows : List (List Int)} (h : OwnTV β σ v rows) : RowsV σ v rows := h.imp id fun ⟨g, q, e, ho⟩ => ⟨g, 0, e, ho.rows⟩
theorem OwnTV.keep {β σ τ : AHeap} {v : Value} {rows : List (List Int)} (h : OwnTV β σ v rows) (hk : ∀ k ob, β k = none → σ k = some ob → τ k = some ob) : OwnTV β τ v rows := h.imp id fun ⟨g, q, e, ho⟩ => ⟨g, q, e, ho.keep hk⟩
theorem OwnTV.sub {β σ τ : AHeap} {v : Value} {rows : List (List Int)} (h : OwnTV β σ v rows) (hs : Sub σ τ) : OwnTV β τ v rows := h.keep fun k ob _ e => hs k ob e
theorem OwnTV.base {β β' σ : AHeap} {v : Value} {rows : List (List Int)} (h : OwnTV β σ v rows) (hs : Sub β' β) : OwnTV β' σ v rows := h.imp id fun ⟨g, q, e, ho⟩ => ⟨g, q, e, ho.base hs⟩
/-- all but some rows stay -/
def KeptQ (n : Nat) (q : Nat → Nat) (σ τ : AHeap) : Prop := ∀ h ob, (∀ i, i < n → q i ≠ h) → σ h = some ob → τ h = some ob
theorem KeptQ.sub {n : Nat} {q : Nat → Nat} {b σ τ : AHeap} (h : KeptQ n q σ τ) (hs : Sub b σ) (hn : ∀ i, i < n → b (q i) = none) : Sub b τ := fun k ob e => h k ob (fun i hi e2 => by rw [← e2, hn i hi] at e; cases e) (hs k ob e)
/-- what is newer than these rows stays -/
theorem KeptQ.newer {n : Nat} {q : Nat → Nat} {β σ τ : AHeap} (h : KeptQ n q σ τ) (hn : ∀ i, i < n → ∃ ob, β (q i) = some ob) : ∀ k ob, β k = none → σ k = some ob → τ k = some ob := fun k ob hb e => h k ob (fun i hi e2 => by
  obtain ⟨ob', ho⟩ := hn i hi
  rw [e2, hb] at ho; cases ho) e

theorem toRowsO_at (σ : AHeap) (h o : Nat) (rows : List (List Int)) (hv : RowsAt σ h o rows) (hl : rows.length ≤ 1048576) (hr : ∀ i, i < rows.length → (rows.getD i []).length ≤ 1048576) :
    ACall Try.prog w0 39 [.slice (some ⟨h, o, none⟩) rows.length 1] σ fun r σ' => ∃ g q, r = .slice (some ⟨g, 0, none⟩) rows.length 1 ∧ Sub σ σ' ∧ OwnT σ σ' g q rows := by
  refine acall_go mixed Try.func39 rfl good39 ?_
  simp -implicitDefEqProofs (disch := omega) only [List.any_cons, List.any_nil, Nat.reduceEqDiff, List.map_cons, List.map_nil, Option.map_some, Option.map_none, List.nil_append, ↓reduceIte, vcu0, vcu1, vcu2, vcu3, vcu4, vcu5, vcu6, vcu7, vcu8, vcu9, vcu10, vcu11, vcu12, vcu13, vcu14, vcu15, vcu16, ↓vcd0, ↓vcd1, ↓vcd2, ↓vcd3]
  refine r_make (kx := .i64) (ky := .i64) (l := rows.length) (c := rows.length) el23 (by simp -implicitDefEqProofs (disch := omega) only [List.any_cons, List.any_nil, Nat.reduceEqDiff, List.map_cons, List.map_nil, Option.map_some, Option.map_none, List.nil_append, ↓reduceIte, vcu0, vcu1, vcu2, vcu3, vcu4, vcu5, vcu6, vcu7, vcu8, vcu9, vcu10, vcu11, vcu12, vcu13, vcu14, vcu15, vcu16, ↓vcd0, ↓vcd1, ↓vcd2, ↓vcd3]) (by simp -implicitDefEqProofs (disch := omega) only [List.any_cons, List.any_nil, Nat.reduceEqDiff, List.map_cons, List.map_nil, Option.map_some, Option.map_none, List.nil_append, ↓reduceIte, vcu0, vcu1, vcu2, vcu3, vcu4, vcu5, vcu6, vcu7, vcu8, vcu9, vcu10, vcu11, vcu12, vcu13, vcu14, vcu15, vcu16, ↓vcd0, ↓vcd1, ↓vcd2, ↓vcd3]) (by omega) fun g τ hg hs he => ?_
  rw [azeros_nil] at he
  simp -implicitDefEqProofs (disch := omega) only [List.any_cons, List.any_nil, Nat.reduceEqDiff, List.map_cons, List.map_nil, Option.map_some, Option.map_none, List.nil_append, ↓reduceIte, vcu0, vcu1, vcu2, vcu3, vcu4, vcu5, vcu6, vcu7, vcu8, vcu9, vcu10, vcu11, vcu12, vcu13, vcu14, vcu15, vcu16, ↓vcd0, ↓vcd1, ↓vcd2, ↓vcd3]
  refine vc_loop_c mixed (by kernel_rfl) [0, 3] (fun m a σ' => ∃ (k : Nat) (q : Nat → Nat), m + k = rows.length ∧ a 4 = .int .i64 k ∧ Sub σ σ' ∧ σ' g = some ⟨rowVs q (rows.take k) ++ List.replicate (rows.length - k) (.slice none 0 0), false⟩ ∧
    (∀ i, i < k → σ' (q i) = some ⟨ints .i64 (rows.getD i []), false⟩ ∧ σ (q i) = none ∧ q i ≠ g) ∧ ∀ i j, i < k → j < k → q i = q j → i = j) rows.length ⟨0, fun _ => 0, by simp, rfl, hs, by simpa [rowVs] using he, by simp, by simp⟩ ?_
  rintro m a σ' hc ⟨k, q, hk, h4, hsub, hgk, hall, hinj⟩
  simp -implicitDefEqProofs (disch := omega) only [List.any_cons, List.any_nil, Nat.reduceEqDiff, List.map_cons, List.map_nil, Option.map_some, Option.map_none, List.nil_append, ↓reduceIte, vcu0, vcu1, vcu2, vcu3, vcu4, vcu5, vcu6, vcu7, vcu8, vcu9, vcu10, vcu11, vcu12, vcu13, vcu14, vcu15, vcu16, ↓vcd0, ↓vcd1, ↓vcd2, ↓vcd3] at hc
  obtain ⟨h0, h3, -⟩ := hc
  by_cases hlt : k < rows.length
  · obtain ⟨v, hx, hi⟩ := (hv.sub hsub) k hlt
    have hrk := hr k hlt
    have htk : rows.take (k + 1) = rows.take k ++ [rows.getD k []] := by
      rw [List.take_succ_eq_append_getElem hlt]; simp [List.getD, hlt]
    generalize hrow : rows.getD k [] = row at hi hrk htk
    simp -implicitDefEqProofs (disch := omega) only [List.any_cons, List.any_nil, Nat.reduceEqDiff, List.map_cons, List.map_nil, Option.map_some, Option.map_none, List.nil_append, ↓reduceIte, vcu0, vcu1, vcu2, vcu3, vcu4, vcu5, vcu6, vcu7, vcu8, vcu9, vcu10, vcu11, vcu12, vcu13, vcu14, vcu15, vcu16, ↓vcd0, ↓vcd1, ↓vcd2, ↓vcd3, h0, h3, h4, hx]
    refine (toInts_calls σ' v row hi hrk).mono ?_
    rintro r τ3 ⟨z, nz, rfl, s3, e3⟩
    have hne : z ≠ g := ne_of nz hgk
    simp -implicitDefEqProofs (disch := omega) only [List.any_cons, List.any_nil, Nat.reduceEqDiff, List.map_cons, List.map_nil, Option.map_some, Option.map_none, List.nil_append, ↓reduceIte, vcu0, vcu1, vcu2, vcu3, vcu4, vcu5, vcu6, vcu7, vcu8, vcu9, vcu10, vcu11, vcu12, vcu13, vcu14, vcu15, vcu16, ↓vcd0, ↓vcd1, ↓vcd2, ↓vcd3, opK_some, h0, h3, h4]
    refine r_set (g := g) (i := 0 + k) (by simp -implicitDefEqProofs (disch := omega) only [List.any_cons, List.any_nil, Nat.reduceEqDiff, List.map_cons, List.map_nil, Option.map_some, Option.map_none, List.nil_append, ↓reduceIte, vcu0, vcu1, vcu2, vcu3, vcu4, vcu5, vcu6, vcu7, vcu8, vcu9, vcu10, vcu11, vcu12, vcu13, vcu14, vcu15, vcu16, ↓vcd0, ↓vcd1, ↓vcd2, ↓vcd3, h3]) (by simp -implicitDefEqProofs (disch := omega) only [List.any_cons, List.any_nil, Nat.reduceEqDiff, List.map_cons, List.map_nil, Option.map_some, Option.map_none, List.nil_append, ↓reduceIte, vcu0, vcu1, vcu2, vcu3, vcu4, vcu5, vcu6, vcu7, vcu8, vcu9, vcu10, vcu11, vcu12, vcu13, vcu14, vcu15, vcu16, ↓vcd0, ↓vcd1, ↓vcd2, ↓vcd3]; rfl) co27 (by simp -implicitDefEqProofs (disch := omega) only [List.any_cons, List.any_nil, Nat.reduceEqDiff, List.map_cons, List.map_nil, Option.map_some, Option.map_none, List.nil_append, ↓reduceIte, vcu0, vcu1, vcu2, vcu3, vcu4, vcu5, vcu6, vcu7, vcu8, vcu9, vcu10, vcu11, vcu12, vcu13, vcu14, vcu15, vcu16, ↓vcd0, ↓vcd1, ↓vcd2, ↓vcd3]; rfl) (s3 _ _ hgk) (by simp [rowVs_length]; omega) fun τ4 k4 e4 => ?_
    simp -implicitDefEqProofs (disch := omega) only [List.any_cons, List.any_nil, Nat.reduceEqDiff, List.map_cons, List.map_nil, Option.map_some, Option.map_none, List.nil_append, ↓reduceIte, vcu0, vcu1, vcu2, vcu3, vcu4, vcu5, vcu6, vcu7, vcu8, vcu9, vcu10, vcu11, vcu12, vcu13, vcu14, vcu15, vcu16, ↓vcd0, ↓vcd1, ↓vcd2, ↓vcd3, Nat.zero_add] at e4
    rw [set_new (by rw [rowVs_length]; simp; omega) hlt] at e4
    simp -implicitDefEqProofs (disch := omega) only [List.any_cons, List.any_nil, Nat.reduceEqDiff, List.map_cons, List.map_nil, Option.map_some, Option.map_none, List.nil_append, ↓reduceIte, vcu0, vcu1, vcu2, vcu3, vcu4, vcu5, vcu6, vcu7, vcu8, vcu9, vcu10, vcu11, vcu12, vcu13, vcu14, vcu15, vcu16, ↓vcd0, ↓vcd1, ↓vcd2, ↓vcd3, h0, h3, h4]
    refine ⟨⟨trivial, trivial, trivial⟩, m - 1, by omega, k + 1, fun i => if i = k then z else q i, by omega, by simp, k4.sub (hsub.trans s3) hg, ?_, fun i hi => ?_, fun i j hi hj => ?_⟩
    · rw [e4, htk]
      have hkl : (rows.take k).length = k := by simp; omega
      have := rowVs_push (q := q) (rows := rows.take k) (r := z) (row := row)
      rw [hkl] at this
      rw [this]; rfl
    · dsimp only
      split
      · rename_i e; subst e
        exact ⟨by rw [hrow]; exact k4.at e3 hne, free_sub hsub nz, hne⟩
      · obtain ⟨b1, b2, b3⟩ := hall i (by omega)
        exact ⟨k4.at (s3 _ _ b1) b3, b2, b3⟩
    · dsimp only
      intro e
      split at e
      · split at e
        · omega
        · exact absurd e (ne_of nz (hall j (by omega)).1)
      · split at e
        · exact absurd e (ne_of' nz (hall i (by omega)).1)
        · exact hinj i j (by omega) (by omega) e
  · simp -implicitDefEqProofs (disch := omega) only [List.any_cons, List.any_nil, Nat.reduceEqDiff, List.map_cons, List.map_nil, Option.map_some, Option.map_none, List.nil_append, ↓reduceIte, vcu0, vcu1, vcu2, vcu3, vcu4, vcu5, vcu6, vcu7, vcu8, vcu9, vcu10, vcu11, vcu12, vcu13, vcu14, vcu15, vcu16, ↓vcd0, ↓vcd1, ↓vcd2, ↓vcd3, h0, h3, h4]
    have e2 : k = rows.length := by omega
    subst e2
    refine fin_one Try.results39 ⟨g, q, ?_, hsub, ⟨by simpa using hgk, hg, fun i hi => (hall i hi).1, fun i hi => (hall i hi).2.1, fun i hi => (hall i hi).2.2, hinj⟩⟩
    simp -implicitDefEqProofs (disch := omega) only [List.any_cons, List.any_nil, Nat.reduceEqDiff, List.map_cons, List.map_nil, Option.map_some, Option.map_none, List.nil_append, ↓reduceIte, vcu0, vcu1, vcu2, vcu3, vcu4, vcu5, vcu6, vcu7, vcu8, vcu9, vcu10, vcu11, vcu12, vcu13, vcu14, vcu15, vcu16, ↓vcd0, ↓vcd1, ↓vcd2, ↓vcd3, h3]

/-- how many numbers the first k rows have -/
def tot (rows : List (List Int)) : Nat → Nat
  | 0 => 0
  | k + 1 => tot rows k + (rows.getD k []).length
theorem tot_le {rows : List (List Int)} (hr : ∀ i, i < rows.length → (rows.getD i []).length ≤ 1048576) : ∀ k, k ≤ rows.length → tot rows k ≤ 1048576 * k
  | 0, _ => by simp [tot]
  | k + 1, hk => by
    have := tot_le hr k (by omega)
    have := hr k (by omega)
    simp only [tot]; omega
/-- the first m rows are marked -/
def mk (rows : List (List Int)) (k : Int) : Nat → List (List Int)
  | 0 => rows
  | m + 1 => (mk rows k m).set m (seq (k + tot rows m) (rows.getD m []).length)
theorem mk_length (rows : List (List Int)) (k : Int) : ∀ m, (mk rows k m).length = rows.length
  | 0 => rfl
  | m + 1 => by rw [mk, List.length_set, mk_length rows k m]
theorem mk_get (rows : List (List Int)) (k : Int) : ∀ m, m ≤ rows.length → ∀ i, (mk rows k m).getD i [] = if i < m then seq (k + tot rows i) (rows.getD i []).length else rows.getD i []
  | 0, _, i => by simp [mk]
  | m + 1, hm, i => by
    rw [mk, getD_setL (by rw [mk_length]; omega), mk_get rows k m (by omega)]
    by_cases e : i = m
    · subst e; rw [if_pos rfl, if_pos (by omega)]
    · rw [if_neg e]
      by_cases h : i < m
      · rw [if_pos h, if_pos (by omega)]
      · rw [if_neg h, if_neg (by omega)]

theorem markRows_at (β σ : AHeap) (g : Nat) (q : Nat → Nat) (rows : List (List Int)) (k : Int) (hv : OwnT β σ g q rows) (hl : rows.length ≤ 1048576) (hr : ∀ i, i < rows.length → (rows.getD i []).length ≤ 1048576) (hk : 0 ≤ k ∧ k ≤ 1048576) :
    ACall Try.prog w0 42 [.slice (some ⟨g, 0, none⟩) rows.length 1, .int .i64 k] σ fun r σ' => r = .int .i64 (k + tot rows rows.length) ∧ OwnT β σ' g q (mk rows k rows.length) ∧ KeptQ rows.length q σ σ' := by
  refine acall_go mixed Try.func42 rfl good42 ?_
  simp -implicitDefEqProofs (disch := omega) only [List.any_cons, List.any_nil, Nat.reduceEqDiff, List.map_cons, List.map_nil, Option.map_some, Option.map_none, List.nil_append, ↓reduceIte, vcu0, vcu1, vcu2, vcu3, vcu4, vcu5, vcu6, vcu7, vcu8, vcu9, vcu10, vcu11, vcu12, vcu13, vcu14, vcu15, vcu16, ↓vcd0, ↓vcd1, ↓vcd2, ↓vcd3]
  refine vc_loop_c mixed (by kernel_rfl) [0] (fun m a σ' => ∃ i : Nat, m + i = rows.length ∧ a 5 = .int .i64 i ∧ a 1 = .int .i64 (k + tot rows i) ∧ OwnT β σ' g q (mk rows k i) ∧ KeptQ rows.length q σ σ') rows.length ⟨0, by simp, rfl, by simp [fset, aenter, tot], hv, fun _ _ _ e => e⟩ ?_
  rintro m a σ' hc ⟨i, hi, h5, h1, hO, hK⟩
  simp -implicitDefEqProofs (disch := omega) only [List.any_cons, List.any_nil, Nat.reduceEqDiff, List.map_cons, List.map_nil, Option.map_some, Option.map_none, List.nil_append, ↓reduceIte, vcu0, vcu1, vcu2, vcu3, vcu4, vcu5, vcu6, vcu7, vcu8, vcu9, vcu10, vcu11, vcu12, vcu13, vcu14, vcu15, vcu16, ↓vcd0, ↓vcd1, ↓vcd2, ↓vcd3] at hc
  obtain ⟨h0, -⟩ := hc
  have hb := tot_le hr i (by omega)
  by_cases hlt : i < rows.length
  · have hil : i < (mk rows k i).length := by rw [mk_length]; exact hlt
    have hx := hO.get hil
    have hrow := hO.row i hil
    have hri := hr i hlt
    have hts : tot rows (i + 1) = tot rows i + (rows.getD i []).length := rfl
    rw [mk_get rows k i (by omega), if_neg (by omega)] at hx hrow
    simp -implicitDefEqProofs (disch := omega) only [List.any_cons, List.any_nil, Nat.reduceEqDiff, List.map_cons, List.map_nil, Option.map_some, Option.map_none, List.nil_append, ↓reduceIte, vcu0, vcu1, vcu2, vcu3, vcu4, vcu5, vcu6, vcu7, vcu8, vcu9, vcu10, vcu11, vcu12, vcu13, vcu14, vcu15, vcu16, ↓vcd0, ↓vcd1, ↓vcd2, ↓vcd3, h0, h1, h5, hx]
    refine (mark_own σ' (q i) (rows.getD i []) (k + tot rows i) hrow hri (by omega)).mono ?_
    rintro r τ ⟨rfl, k1, e1⟩
    simp -implicitDefEqProofs (disch := omega) only [List.any_cons, List.any_nil, Nat.reduceEqDiff, List.map_cons, List.map_nil, Option.map_some, Option.map_none, List.nil_append, ↓reduceIte, vcu0, vcu1, vcu2, vcu3, vcu4, vcu5, vcu6, vcu7, vcu8, vcu9, vcu10, vcu11, vcu12, vcu13, vcu14, vcu15, vcu16, ↓vcd0, ↓vcd1, ↓vcd2, ↓vcd3, opK_some, h0, h5]
    refine ⟨⟨trivial, trivial⟩, m - 1, by omega, i + 1, by omega, by simp, ?_, ?_, fun h ob hh e => k1.at (hK h ob hh e) (hh i hlt).symm⟩
    · congr 1; rw [hts]; omega
    · exact hO.write hil (by rw [seq_length, mk_get rows k i (by omega), if_neg (by omega)]) k1 e1
  · simp -implicitDefEqProofs (disch := omega) only [List.any_cons, List.any_nil, Nat.reduceEqDiff, List.map_cons, List.map_nil, Option.map_some, Option.map_none, List.nil_append, ↓reduceIte, vcu0, vcu1, vcu2, vcu3, vcu4, vcu5, vcu6, vcu7, vcu8, vcu9, vcu10, vcu11, vcu12, vcu13, vcu14, vcu15, vcu16, ↓vcd0, ↓vcd1, ↓vcd2, ↓vcd3, h0, h1, h5]
    have e : i = rows.length := by omega
    subst e
    refine fin_one Try.results42 ⟨?_, hO, hK⟩
    simp -implicitDefEqProofs (disch := omega) only [List.any_cons, List.any_nil, Nat.reduceEqDiff, List.map_cons, List.map_nil, Option.map_some, Option.map_none, List.nil_append, ↓reduceIte, vcu0, vcu1, vcu2, vcu3, vcu4, vcu5, vcu6, vcu7, vcu8, vcu9, vcu10, vcu11, vcu12, vcu13, vcu14, vcu15, vcu16, ↓vcd0, ↓vcd1, ↓vcd2, ↓vcd3, h1]
theorem heldRows_at (σ : AHeap) (g o : Nat) (rows M : List (List Int)) (k : Int) (hM : M.length = rows.length) (hv : RowsAt σ g o M) (hm : ∀ i, i < rows.length → M.getD i [] = seq (k + tot rows i) (rows.getD i []).length) (hl : rows.length ≤ 1048576) (hr : ∀ i, i < rows.length → (rows.getD i []).length ≤ 1048576) (hk : 0 ≤ k ∧ k ≤ 1048576) :
    ACall Try.prog w0 45 [.slice (some ⟨g, o, none⟩) rows.length 1, .int .i64 k] σ fun r σ' => r = .int .i64 (k + tot rows rows.length) ∧ σ' = σ := by
  refine acall_go mixed Try.func45 rfl good45 ?_
  simp -implicitDefEqProofs (disch := omega) only [List.any_cons, List.any_nil, Nat.reduceEqDiff, List.map_cons, List.map_nil, Option.map_some, Option.map_none, List.nil_append, ↓reduceIte, vcu0, vcu1, vcu2, vcu3, vcu4, vcu5, vcu6, vcu7, vcu8, vcu9, vcu10, vcu11, vcu12, vcu13, vcu14, vcu15, vcu16, ↓vcd0, ↓vcd1, ↓vcd2, ↓vcd3]
  refine vc_loop_c mixed (by kernel_rfl) [0] (fun m a σ' => ∃ i : Nat, m + i = rows.length ∧ a 5 = .int .i64 i ∧ a 1 = .int .i64 (k + tot rows i) ∧ σ' = σ) rows.length ⟨0, by simp, rfl, by simp [fset, aenter, tot], rfl⟩ ?_
  rintro m a σ' hc ⟨i, hi, h5, h1, rfl⟩
  simp -implicitDefEqProofs (disch := omega) only [List.any_cons, List.any_nil, Nat.reduceEqDiff, List.map_cons, List.map_nil, Option.map_some, Option.map_none, List.nil_append, ↓reduceIte, vcu0, vcu1, vcu2, vcu3, vcu4, vcu5, vcu6, vcu7, vcu8, vcu9, vcu10, vcu11, vcu12, vcu13, vcu14, vcu15, vcu16, ↓vcd0, ↓vcd1, ↓vcd2, ↓vcd3] at hc
  obtain ⟨h0, -⟩ := hc
  have hb := tot_le hr i (by omega)
  by_cases hlt : i < rows.length
  · obtain ⟨v, hx, hi'⟩ := hv i (by omega)
    rw [hm i hlt] at hi'
    have hri := hr i hlt
    have hts : tot rows (i + 1) = tot rows i + (rows.getD i []).length := rfl
    simp -implicitDefEqProofs (disch := omega) only [List.any_cons, List.any_nil, Nat.reduceEqDiff, List.map_cons, List.map_nil, Option.map_some, Option.map_none, List.nil_append, ↓reduceIte, vcu0, vcu1, vcu2, vcu3, vcu4, vcu5, vcu6, vcu7, vcu8, vcu9, vcu10, vcu11, vcu12, vcu13, vcu14, vcu15, vcu16, ↓vcd0, ↓vcd1, ↓vcd2, ↓vcd3, h0, h1, h5, hx]
    refine (heldI_calls σ' v _ (k + tot rows i) hi' hri (by omega)).mono ?_
    rintro r _ ⟨rfl, rfl⟩
    simp -implicitDefEqProofs (disch := omega) only [List.any_cons, List.any_nil, Nat.reduceEqDiff, List.map_cons, List.map_nil, Option.map_some, Option.map_none, List.nil_append, ↓reduceIte, vcu0, vcu1, vcu2, vcu3, vcu4, vcu5, vcu6, vcu7, vcu8, vcu9, vcu10, vcu11, vcu12, vcu13, vcu14, vcu15, vcu16, ↓vcd0, ↓vcd1, ↓vcd2, ↓vcd3, opK_some, h0, h5]
    refine ⟨⟨trivial, trivial⟩, m - 1, by omega, i + 1, by omega, by simp, ?_, trivial⟩
    congr 1; rw [hts]; omega
  · simp -implicitDefEqProofs (disch := omega) only [List.any_cons, List.any_nil, Nat.reduceEqDiff, List.map_cons, List.map_nil, Option.map_some, Option.map_none, List.nil_append, ↓reduceIte, vcu0, vcu1, vcu2, vcu3, vcu4, vcu5, vcu6, vcu7, vcu8, vcu9, vcu10, vcu11, vcu12, vcu13, vcu14, vcu15, vcu16, ↓vcd0, ↓vcd1, ↓vcd2, ↓vcd3, h0, h1, h5]
    have e : i = rows.length := by omega
    subst e
    refine fin_one Try.results45 ⟨?_, rfl⟩
    simp -implicitDefEqProofs (disch := omega) only [List.any_cons, List.any_nil, Nat.reduceEqDiff, List.map_cons, List.map_nil, Option.map_some, Option.map_none, List.nil_append, ↓reduceIte, vcu0, vcu1, vcu2, vcu3, vcu4, vcu5, vcu6, vcu7, vcu8, vcu9, vcu10, vcu11, vcu12, vcu13, vcu14, vcu15, vcu16, ↓vcd0, ↓vcd1, ↓vcd2, ↓vcd3, h1]
end Go.Proofs.Ytbfldpcikcdlpaa

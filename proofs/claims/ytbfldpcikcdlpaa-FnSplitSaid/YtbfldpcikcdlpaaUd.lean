/- Comparisons and marks of tables that may be nil. -/
import Derived.Test.YtbfldpcikcdlpaaUc
set_option linter.unusedSimpArgs false
set_option linter.unusedVariables false
namespace Go.Proofs.Ytbfldpcikcdlpaa
open Go Go.Abs Go.RowKit
variable {w0 : World}

theorem ACall.rows_quiet {f : FuncId} {pre post : List Value} {σ : AHeap} {v F : Value} {rows : List (List Int)} (hc : callable Try.prog f = true) (hv : RowsV σ v rows)
    (h : ∀ σ1 g o, Sub σ σ1 → RowsAt σ1 g o rows → ACall Try.prog w0 f (pre ++ .slice (some ⟨g, o, none⟩) rows.length 1 :: post) σ1 fun r σ' => r = F ∧ σ' = σ1) : ACall Try.prog w0 f (pre ++ v :: post) σ fun r σ' => r = F ∧ σ' = σ :=
  ACall.rows_arg hc hv fun σ1 g o hs hg => (h σ1 g o hs hg).drop fun _ _ ⟨h1, h2⟩ => ⟨σ, h2 ▸ hs, h1, rfl⟩
theorem eqRows_calls (σ : AHeap) (v u : Value) (xs : List (List Int)) (hv : RowsV σ v xs) (hu : RowsV σ u xs) (hl : xs.length ≤ 1048576) (hr : ∀ i, i < xs.length → (xs.getD i []).length ≤ 1048576) :
    ACall Try.prog w0 40 [v, u] σ fun r σ' => r = .bool true ∧ σ' = σ :=
  ACall.rows_quiet (pre := []) (post := [u]) (by kernel_rfl) hv fun σ1 h o hs hg =>
    ACall.rows_quiet (pre := [_]) (post := []) (by kernel_rfl) (hu.sub hs) fun σ2 g p hs2 hg2 => eqRows_at σ2 h o g p xs xs (hg.sub hs2) hg2 hl rfl hr
theorem markT_calls (β σ : AHeap) (v : Value) (rows : List (List Int)) (k : Int) (hv : OwnTV β σ v rows) (hl : rows.length ≤ 1048576) (hr : ∀ i, i < rows.length → (rows.getD i []).length ≤ 1048576) (hk : 0 ≤ k ∧ k ≤ 1048576) :
    ACall Try.prog w0 42 [v, .int .i64 k] σ fun r σ' => r = .int .i64 (k + tot rows rows.length) ∧ OwnTV β σ' v (mk rows k rows.length) ∧ (∀ h ob, β h = some ob → σ h = some ob → σ' h = some ob) := by
  rcases hv with ⟨rfl, rfl⟩ | ⟨g, q, rfl, hO⟩
  · refine ACall.nil_arg (pre := []) (z := 1) (by kernel_rfl) fun g hg => ?_
    refine (markRows_at σ _ g (fun _ => 0) [] k (OwnT.nil _ (AHeap.upd_same _ _ _) hg) (by simp) (fun i hi => absurd hi (by simp)) hk).mono ?_
    rintro r σ' ⟨rfl, h1, h2⟩
    exact ⟨rfl, .inl ⟨rfl, rfl⟩, fun h ob _ e => h2 h ob (fun i hi => absurd hi (by simp)) (sub_upd hg h ob e)⟩
  · refine (markRows_at β σ g q rows k hO hl hr hk).mono ?_
    rintro r σ' ⟨rfl, h1, h2⟩
    exact ⟨rfl, .inr ⟨g, q, by rw [mk_length], h1⟩, fun h ob hb e => h2 h ob (fun i hi e2 => by rw [← e2, hO.free i hi] at hb; cases hb) e⟩
theorem heldT_calls (σ : AHeap) (v : Value) (rows : List (List Int)) (k : Int) (hv : RowsV σ v (mk rows k rows.length)) (hl : rows.length ≤ 1048576) (hr : ∀ i, i < rows.length → (rows.getD i []).length ≤ 1048576) (hk : 0 ≤ k ∧ k ≤ 1048576) :
    ACall Try.prog w0 45 [v, .int .i64 k] σ fun r σ' => r = .int .i64 (k + tot rows rows.length) ∧ σ' = σ :=
  ACall.rows_quiet (pre := []) (post := [.int .i64 k]) (by kernel_rfl) hv fun σ1 g o _ hg => by
    rw [mk_length]
    exact heldRows_at σ1 g o rows _ k (mk_length _ _ _) hg (fun i hi => by rw [mk_get rows k _ (Nat.le_refl _), if_pos hi]) hl hr hk
end Go.Proofs.Ytbfldpcikcdlpaa

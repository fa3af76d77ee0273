/- The program's contracts over tables that may be nil. -/
import Derived.Test.YtpcbgdgfdfpapaaJg
set_option linter.unusedSimpArgs false
set_option linter.unusedVariables false
namespace Go.Proofs.Ytpcbgdgfdfpapaa
open Go Go.Abs Go.RowKit Go.Frames
variable {w0 : World}
theorem implFrOk_calls (w0 : World) (σ : AHeap) (v u : Value) (T F : List (List Int)) (hv : RowsV σ v T) (hl : T.length ≤ 1048576) (hf : RowsV σ u F) (hfl : F.length ≤ 1048576) (hfr : ∀ i, i < F.length → (F.getD i []).length ≤ 1048576) :
    ACall Try.prog w0 18 [v, u] σ fun r σ' => r = .bool (decide (FrOk T F)) ∧ Sub σ σ' :=
  ACall.rows_arg (pre := []) (post := [u]) (by kernel_rfl) hv fun σ1 g o hs hg => ACall.rows_arg (pre := [_]) (post := []) (by kernel_rfl) (hf.sub hs) fun σ2 g2 o2 hs2 hg2 =>
    (implFrOk_at σ2 g o g2 o2 T F (hg.sub hs2) hl hg2 hfl hfr).mono fun r σ' ⟨a, b⟩ => ⟨a, (hs.trans hs2).trans b⟩
theorem implLeft_calls (w0 : World) (σ : AHeap) (v u : Value) (T F : List (List Int)) (hv : RowsV σ v T) (hl : T.length ≤ 1048576) (hf : RowsV σ u F) (hfl : F.length ≤ 1048576) (hfr : ∀ i, i < F.length → (F.getD i []).length ≤ 1048576) :
    ACall Try.prog w0 21 [v, u] σ fun r σ' => Sub σ σ' ∧ OwnTV σ σ' r (leftV T F) :=
  ACall.rows_arg (pre := []) (post := [u]) (by kernel_rfl) hv fun σ1 g o hs hg => ACall.rows_arg (pre := [_]) (post := []) (by kernel_rfl) (hf.sub hs) fun σ2 g2 o2 hs2 hg2 =>
    (implLeft_at σ2 g o g2 o2 T F (hg.sub hs2) hl hg2 hfl hfr).mono fun r σ' ⟨a, b⟩ => ⟨(hs.trans hs2).trans a, b.base (hs.trans hs2)⟩
theorem implSends_calls (w0 : World) (σ : AHeap) (v : Value) (F : List (List Int)) (hv : RowsV σ v F) (hl : F.length ≤ 1048576) (hr : ∀ i, i < F.length → (F.getD i []).length ≤ 1048576) :
    ACall Try.prog w0 23 [v] σ fun r σ' => r = .int .i64 (sendsF F F.length) ∧ σ' = σ :=
  (ACall.rows_arg (R := fun r σ' => r = .int .i64 (sendsF F F.length) ∧ Sub σ σ') (pre := []) (post := []) (by kernel_rfl) hv fun σ1 g o hs hg =>
    (implSends_at σ1 g o F hg hl hr).mono fun r σ' ⟨a, b⟩ => ⟨a, b ▸ hs⟩).drop fun _ _ ⟨h1, h2⟩ => ⟨σ, h2, h1, rfl⟩
theorem implAll_calls (w0 : World) (σ : AHeap) (v : Value) (T : List (List Int)) (hv : RowsV σ v T) (hl : T.length ≤ 1048576) :
    ACall Try.prog w0 24 [v] σ fun r σ' => r = .int .i64 (allV2 T) ∧ Sub σ σ' :=
  ACall.rows_arg (pre := []) (post := []) (by kernel_rfl) hv fun σ1 g o hs hg => (implAll_at σ1 g o T hg hl).mono fun r σ' ⟨a, b⟩ => ⟨a, b ▸ hs⟩
theorem implFill_calls (w0 : World) (σ : AHeap) (v : Value) (T : List (List Int)) (hv : RowsV σ v T) (hl : T.length ≤ 1048576) :
    ACall Try.prog w0 36 [v] σ fun r σ' => Sub σ σ' ∧ OwnTV σ σ' r (fillB T) :=
  ACall.rows_arg (pre := []) (post := []) (by kernel_rfl) hv fun σ1 g o hs hg => (implFill_at σ1 g o T hg hl).mono fun r σ' ⟨a, b⟩ => ⟨hs.trans a, b.base hs⟩
theorem implBest_calls (w0 : World) (σ : AHeap) (v : Value) (T : List (List Int)) (hv : RowsV σ v T) (hl : T.length ≤ 1048576) :
    ACall Try.prog w0 40 [v] σ fun r σ' => Sub σ σ' ∧ OwnTV σ σ' r (bestB T) :=
  ACall.rows_arg (pre := []) (post := []) (by kernel_rfl) hv fun σ1 g o hs hg => (implBest_at σ1 g o T hg hl).mono fun r σ' ⟨a, b⟩ => ⟨hs.trans a, b.base hs⟩
theorem implGreedy_calls (w0 : World) (σ : AHeap) (v : Value) (T : List (List Int)) (hv : RowsV σ v T) (hl : T.length ≤ 1048576) :
    ACall Try.prog w0 43 [v] σ fun r σ' => Sub σ σ' ∧ ∃ O, OwnTV σ σ' r O ∧ GrOk T O :=
  ACall.rows_arg (pre := []) (post := []) (by kernel_rfl) hv fun σ1 g o hs hg => (implGreedy_at σ1 g o T hg hl).mono fun r σ' ⟨a, O, b, c⟩ => ⟨hs.trans a, O, b.base hs, c⟩
end Go.Proofs.Ytpcbgdgfdfpapaa

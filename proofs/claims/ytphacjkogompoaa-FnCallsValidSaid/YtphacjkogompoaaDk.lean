/- CallsValid and others of the program, whatever the row. -/
import Derived.Test.YtphacjkogompoaaCx
import Derived.Test.YtphacjkogompoaaDf
import Derived.Test.YtphacjkogompoaaYg
set_option linter.unusedSimpArgs false
set_option linter.unusedVariables false
namespace Go.Proofs.Ytphacjkogompoaa
open Go Go.Abs Go.RowKit Go.Clos
variable {w0 : World}

theorem implCV_calls (σ : AHeap) (O E M : Int) (v : Value) (cs : List Cl) (hv : Tris σ v cs) (hl : cs.length ≤ 1048576) :
    ACall Try.prog w0 28 [.agg #[.int .i64 O, .int .i64 E, .int .i64 M], v] σ fun r σ' => r = .bool (decide (CV ⟨O, E, M⟩ cs)) ∧ σ' = σ :=
  ACall.tris_quiet (pre := [_]) (post := []) (by kernel_rfl) hv fun σ1 h o _ hg => implCV_at σ1 O E M h o cs hg hl
theorem specCV_calls (σ : AHeap) (O E M : Int) (v : Value) (cs : List Cl) (hv : Tris σ v cs) (hl : cs.length ≤ 1048576) :
    ACall Try.prog w0 29 [.agg #[.int .i64 O, .int .i64 E, .int .i64 M], v] σ fun r σ' => r = .bool (decide (CV ⟨O, E, M⟩ cs)) ∧ σ' = σ :=
  ACall.tris_quiet (pre := [_]) (post := []) (by kernel_rfl) hv fun σ1 h o _ hg => specCV_at σ1 O E M h o cs hg hl
theorem implMoved_calls (σ : AHeap) (v u : Value) (xs ys : List Cl) (hv : Tris σ v xs) (hu : Tris σ u ys) (hl : xs.length ≤ 1048576) (hl2 : ys.length ≤ 1048576) :
    ACall Try.prog w0 42 [v, u] σ fun r σ' => r = .int .i64 (moved xs ys) ∧ σ' = σ :=
  ACall.tris_quiet (pre := []) (post := [u]) (by kernel_rfl) hv fun σ1 h o hs hg =>
    ACall.tris_quiet (pre := [_]) (post := []) (by kernel_rfl) (hu.sub hs) fun σ2 g p hs2 hg2 => implMoved_at σ2 h o g p xs ys (hg.sub hs2) hg2 hl hl2
theorem implDrop_calls (σ : AHeap) (s : Sp) (v : Value) (cs : List Cl) (I : Int) (hv : Tris σ v cs) (hl : cs.length ≤ 1048576) :
    ACall Try.prog w0 41 [.agg #[.int .i64 s.O, .int .i64 s.E, .int .i64 s.M], v, .int .i64 I] σ fun r σ' => ∃ v, r = .tuple #[v, .bool (dropOk s cs I)] ∧ Sub σ σ' ∧ OwnC σ σ' v (drL s cs I) :=
  ACall.tris_arg (pre := [_]) (post := [_]) (by kernel_rfl) hv fun σ1 h o hs hg => (implDrop_at σ1 s h o cs I hg hl).mono fun r σ' ⟨v, h1, h2, h3⟩ => ⟨v, h1, hs.trans h2, h3.older hs⟩
theorem tris_lenK {σ : AHeap} {v : Value} {cs : List Cl} (h : Tris σ v cs) : alenV Try.prog 29 v = some (.int .i64 (cs.length : Int)) := by
  rcases h with ⟨rfl, rfl⟩ | ⟨g, o, rfl, -⟩
  · exact alenV_slice Try.underlying29
  · exact alenV_slice Try.underlying29
theorem turned_take {n j : Nat} (h : j < n) : (turned n).take (j + 1) = (turned n).take j ++ [(n : Int) - 1 - j] := by
  rw [take_succ' (by rw [turned_length]; exact h), turned_getD h]
theorem rt_turned {s : Sp} {n : Nat} (hn : (n : Int) = s.O * s.E) : rtOk s (turned n) ↔ Enough s :=
  ⟨fun h => h.1, fun h => ⟨h, turned_ok n, by rw [turned_length]; exact hn⟩⟩
theorem rt_CV {s : Sp} {p : List Int} (h : rtOk s p) : CV s (routeN s p p.length) := (routeN_CV h.1 h.2.1.1 h.2.1.2 h.2.2 p.length (Nat.le_refl _)).1
end Go.Proofs.Ytphacjkogompoaa

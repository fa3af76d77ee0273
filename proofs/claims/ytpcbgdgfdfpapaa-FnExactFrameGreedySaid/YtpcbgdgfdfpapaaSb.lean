/- Two tables side by side; copyTable; Split of the program. -/
import Derived.Test.YtpcbgdgfdfpapaaSa
set_option linter.unusedSimpArgs false
set_option linter.unusedVariables false
namespace Go.Proofs.Ytpcbgdgfdfpapaa
open Go Go.Abs Go.RowKit
variable {w0 : World}

/-- nil, or a table of its own that has none of some handles -/
def Apart (σ0 σ : AHeap) (F : Nat → Prop) (v : Value) (O : List (List Int)) : Prop :=
  (v = .slice none 0 0 ∧ O = []) ∨ ∃ go qo, v = .slice (some ⟨go, 0, none⟩) O.length 1 ∧ OwnT σ0 σ go qo O ∧ ¬ F go ∧ ∀ i, i < O.length → ¬ F (qo i)
theorem Apart.own {σ0 σ : AHeap} {F : Nat → Prop} {v : Value} {O : List (List Int)} (h : Apart σ0 σ F v O) : OwnTV σ0 σ v O := h.imp id fun ⟨go, qo, e, ho, _⟩ => ⟨go, qo, e, ho⟩
theorem Apart.sub {σ0 σ τ : AHeap} {F : Nat → Prop} {v : Value} {O : List (List Int)} (h : Apart σ0 σ F v O) (hs : Sub σ τ) : Apart σ0 τ F v O :=
  h.imp id fun ⟨go, qo, e, ho, r⟩ => ⟨go, qo, e, ho.sub hs, r⟩
theorem OwnT.keptx {β σ τ : AHeap} {x g : Nat} {q : Nat → Nat} {rows : List (List Int)} (h : OwnT β σ g q rows) (hk : Kept x σ τ) (h1 : g ≠ x) (h2 : ∀ i, i < rows.length → q i ≠ x) : OwnT β τ g q rows :=
  ⟨hk.at h.at_ h1, h.new, fun i hi => hk.at (h.row i hi) (h2 i hi), h.free, h.ne, h.inj⟩
theorem Apart.keptx {σ0 σ τ : AHeap} {F : Nat → Prop} {v : Value} {O : List (List Int)} {x : Nat} (h : Apart σ0 σ F v O) (hk : Kept x σ τ) (hx : F x) : Apart σ0 τ F v O :=
  h.imp id fun ⟨go, qo, e, ho, a, b⟩ => ⟨go, qo, e, ho.keptx hk (fun e => a (e ▸ hx)) (fun i hi e => b i hi (e ▸ hx)), a, b⟩
theorem Apart.add {σ0 σ : AHeap} {F : Nat → Prop} {v : Value} {O : List (List Int)} {z : Nat} (h : Apart σ0 σ F v O) (hz : σ z = none) : Apart σ0 σ (fun k => F k ∨ k = z) v O :=
  h.imp id fun ⟨go, qo, e, ho, a, b⟩ => ⟨go, qo, e, ho, fun hh => hh.elim a (fun e => ne_of hz ho.at_ e.symm), fun i hi hh => hh.elim (b i hi) (fun e => ne_of hz (ho.row i hi) e.symm)⟩
/-- the handles of a table -/
def FL (g : Nat) (q : Nat → Nat) (n : Nat) (k : Nat) : Prop := k = g ∨ ∃ i, i < n ∧ q i = k
theorem OwnT.keepF {σ0 σ τ : AHeap} {g n : Nat} {q : Nat → Nat} {L : List (List Int)} (h : OwnT σ0 σ g q L) (hn : L.length = n) (hk : ∀ k ob, FL g q n k → σ k = some ob → τ k = some ob) : OwnT σ0 τ g q L :=
  ⟨hk _ _ (.inl rfl) h.at_, h.new, fun i hi => hk _ _ (.inr ⟨i, by omega, rfl⟩) (h.row i hi), h.free, h.ne, h.inj⟩
theorem OwnT.hasF {σ0 σ : AHeap} {g n : Nat} {q : Nat → Nat} {L : List (List Int)} (h : OwnT σ0 σ g q L) (hn : L.length = n) : ∀ k, FL g q n k → ∃ ob, σ k = some ob := fun k hk => by
  rcases hk with rfl | ⟨i, hi, rfl⟩
  · exact ⟨_, h.at_⟩
  · exact ⟨_, h.row i (by omega)⟩
/-- a row of its own is put behind the others -/
theorem r_pushA {b0 : Base} {P : Program} {a : AFrame} {σ σ0 : AHeap} {K : AK} {all os : List Oper} {d : Nat} {ty : TypeId} {pos : String} {af : Array Go.Edge} {t u : TypeId} {b : Nat} {x y : Operand} {e r : Nat} {F : Nat → Prop} {O : List (List Int)} {row : List Int} {v : Value}
    (hE : Elems P t 1 (.slice none 0 0) b) (hb : b ≤ 64) (hu : ∃ e2, P.underlying u = some (.slice e2)) (hx : ev a x = v) (hA : Apart σ0 σ (fun k => F k ∨ k = r) v O) (hF : ∀ k, F k → ∃ ob, σ k = some ob)
    (hy : ev a y = .slice (some ⟨e, 0, none⟩) 1 1) (he : σ e = some ⟨[rowV r row], false⟩) (hr : σ r = some ⟨ints .i64 row, false⟩) (h0 : σ0 r = none) (hFr : ¬ F r) (hs : Sub σ0 σ) (hl : O.length ≤ 1048576)
    (hk : ∀ g' τ, Apart σ0 τ F (.slice (some ⟨g', 0, none⟩) (O.length + 1) 1) (O ++ [row]) → Sub σ0 τ → (∀ k ob, F k → σ k = some ob → τ k = some ob) → vcR P b0 false all os (fset a d (.slice (some ⟨g', 0, none⟩) (O.length + 1) 1)) τ K) :
    vcR P b0 false all (⟨some d, .call ⟨.builtin .append, #[x, y], #[t, u]⟩, ty, pos, af, none⟩ :: os) a σ K := by
  have hcell : acells 1 σ (ev a y) = some [rowV r row] := by rw [hy]; simp [acells, lds, he]
  have e1 : [rowV r row].length / 1 = 1 := by simp
  have hnum : (O.length + 1) * b ≤ 1048577 * 64 := Nat.mul_le_mul (by omega) hb
  rcases hA with ⟨rfl, rfl⟩ | ⟨go, qo, rfl, ho, a1, a2⟩
  · refine r_push_nil hE hu hx hcell (by simp; omega) fun g' τ h1 h2 h3 => ?_
    rw [e1]
    refine hk g' τ (.inr ⟨g', fun _ => r, rfl, ⟨by rw [h3]; simp [rowVs], free_sub hs h1, fun i hi => ?_, fun i hi => h0, fun i hi => ne_of' h1 hr, fun i j hi hj _ => by simp at hi hj; omega⟩, fun hh => ?_, fun i hi => hFr⟩) (hs.trans h2) (fun k ob _ ek => h2 k ob ek)
    · have e0 : i = 0 := by simp at hi; omega
      subst e0
      exact h2 _ _ hr
    · obtain ⟨ob, ho⟩ := hF _ hh
      rw [h1] at ho; cases ho
  · refine r_push hE hu hx ho.at_ (by rw [rowVs_length]; omega) (D := [rowV r row]) hcell (by rfl) (by simp; omega) fun g' τ h1 h2 h3 => ?_
    rw [e1]
    refine hk g' τ (.inr ⟨g', _, by simp, ho.push hr h0 (fun e => a1 (.inr e.symm)) (fun i hi e => a2 i hi (.inr e)) h1 (free_sub hs h1) h2 h3, fun hh => ?_, fun i hi => ?_⟩) (h2.sub hs ho.new) (fun k ob hFk ek => h2.at ek (fun e => a1 (.inl (e ▸ hFk))))
    · obtain ⟨ob, ho⟩ := hF _ hh
      rw [h1] at ho; cases ho
    · split
      · exact hFr
      · exact fun hh => a2 i (by simp at hi; omega) (.inl hh)

/-- the copy of a table -/
theorem copyT_at (σ : AHeap) (h o : Nat) (rows : List (List Int)) (n : Nat) (hv : RowsAt σ h o rows) (hsq : Sq n rows) (hn6 : n ≤ 6) :
    ACall Try.prog w0 58 [.slice (some ⟨h, o, none⟩) n 1] σ fun r σ' => Sub σ σ' ∧ OwnTV σ σ' r rows := by
  refine acall_go mixed Try.func58 rfl good58 fun pr => ?_
  simp -implicitDefEqProofs (disch := omega) only [List.any_cons, List.any_nil, Nat.reduceEqDiff, List.map_cons, List.map_nil, Option.map_some, Option.map_none, List.nil_append, ↓reduceIte, vcu, ↓vcd]
  refine vc_loop_c mixed (by kernel_rfl) [6, 7] (fun m a σ' => ∃ k : Nat, m + k = n ∧ a 8 = .int .i64 k ∧ Sub σ σ' ∧ ∃ v, a 3 = v ∧ OwnTV σ σ' v (rows.take k)) n ⟨0, by simp, rfl, Sub.refl _, _, rfl, .inl ⟨rfl, by simp⟩⟩ ?_
  rintro m a σ' hc ⟨k, hk, h8, hs, v, h3, hO⟩
  simp -implicitDefEqProofs (disch := omega) only [List.any_cons, List.any_nil, Nat.reduceEqDiff, List.map_cons, List.map_nil, Option.map_some, Option.map_none, List.nil_append, ↓reduceIte, vcu, ↓vcd] at hc
  obtain ⟨h6, h7, -⟩ := hc
  have hrn := hsq.1
  by_cases hlt : k < n
  · obtain ⟨u, hx, hi⟩ := (hv.sub hs) k (by omega)
    have hrl := hsq.2 k hlt
    have htk : rows.take (k + 1) = rows.take k ++ [rows.getD k []] := by
      rw [List.take_succ_eq_append_getElem (by omega)]; simp [List.getD, hrn, hlt]
    generalize hrow : rows.getD k [] = row at hi hrl htk
    rcases hi with ⟨rfl, rfl⟩ | ⟨rg, ro, rfl, hat⟩
    · simp at hrl; omega
    simp -implicitDefEqProofs (disch := omega) only [List.any_cons, List.any_nil, Nat.reduceEqDiff, List.map_cons, List.map_nil, Option.map_some, Option.map_none, List.nil_append, ↓reduceIte, vcu, ↓vcd, h3, h6, h7, h8, hx]
    refine (clone_at σ' rg ro row hat (by omega)).mono ?_
    rintro r σ2 ⟨s2, hown⟩
    rcases hown with ⟨-, e⟩ | ⟨z, rfl, ez, nz⟩
    · rw [e] at hrl; simp at hrl; omega
    simp -implicitDefEqProofs (disch := omega) only [List.any_cons, List.any_nil, Nat.reduceEqDiff, List.map_cons, List.map_nil, Option.map_some, Option.map_none, List.nil_append, ↓reduceIte, vcu, ↓vcd, opK_some]
    refine r_lit el23 (out := #[.slice (some ⟨z, 0, none⟩) row.length 1]) (by simp -implicitDefEqProofs (disch := omega) only [List.any_cons, List.any_nil, Nat.reduceEqDiff, List.map_cons, List.map_nil, Option.map_some, Option.map_none, List.nil_append, ↓reduceIte, vcu, ↓vcd]; kernel_rfl) (by kernel_rfl) fun e4 σ4 n4 s4 v4 => ?_
    have hkl : (rows.take k).length = k := by simp; omega
    rcases hO with ⟨rfl, he⟩ | ⟨g, q, rfl, hO⟩
    · refine r_push_nil (D := [rowV z row]) el23 sl23 (by simp -implicitDefEqProofs (disch := omega) only [List.any_cons, List.any_nil, Nat.reduceEqDiff, List.map_cons, List.map_nil, Option.map_some, Option.map_none, List.nil_append, ↓reduceIte, vcu, ↓vcd, h3]) (by simp -implicitDefEqProofs (disch := omega) only [List.any_cons, List.any_nil, Nat.reduceEqDiff, List.map_cons, List.map_nil, Option.map_some, Option.map_none, List.nil_append, ↓reduceIte, vcu, ↓vcd]; simp [acells, lds, v4, rowV]) (by simp) fun g' τ h1 h2 h3' => ?_
      have hk0 : k = 0 := by rw [he] at hkl; simpa using hkl.symm
      subst hk0
      simp -implicitDefEqProofs (disch := omega) only [List.any_cons, List.any_nil, Nat.reduceEqDiff, List.map_cons, List.map_nil, Option.map_some, Option.map_none, List.nil_append, ↓reduceIte, vcu, ↓vcd, h6, h7, h8]
      have hs5 := ((hs.trans s2).trans s4).trans h2
      refine ⟨⟨trivial, trivial, trivial⟩, m - 1, by omega, 1, by omega, by simp, hs5, _, rfl, .inr ⟨g', fun _ => z, ?_, ?_⟩⟩
      · simp [htk]
      · rw [htk]
        refine ⟨by rw [h3']; simp [rowVs], free_sub ((hs.trans s2).trans s4) h1, fun i hi => ?_, fun i hi => free_sub hs nz, fun i hi => ne_of' h1 (s4 _ _ ez), fun i j hi hj _ => by simp at hi hj; omega⟩
        have e0 : i = 0 := by simp at hi; omega
        subst e0
        exact h2 _ _ (s4 _ _ ez)
    · rw [hkl] at h3
      refine r_pushT (β := σ) (len := k) (g := g) (e := e4) (r := z) (q := q) (rows := rows.take k) (row := row) el23 (by omega) sl23 (by simp -implicitDefEqProofs (disch := omega) only [List.any_cons, List.any_nil, Nat.reduceEqDiff, List.map_cons, List.map_nil, Option.map_some, Option.map_none, List.nil_append, ↓reduceIte, vcu, ↓vcd, h3, hkl]) hkl ((hO.sub s2).sub s4) (by simp -implicitDefEqProofs (disch := omega) only [List.any_cons, List.any_nil, Nat.reduceEqDiff, List.map_cons, List.map_nil, Option.map_some, Option.map_none, List.nil_append, ↓reduceIte, vcu, ↓vcd]) (by rw [v4]; simp [rowV]) (s4 _ _ ez) (free_sub hs nz) (ne_of nz hO.at_) (fun i hi => ne_of' nz (hO.row i hi)) ((hs.trans s2).trans s4) (by omega) fun g' q' τ5 s5 hO5 _ _ => ?_
      simp -implicitDefEqProofs (disch := omega) only [List.any_cons, List.any_nil, Nat.reduceEqDiff, List.map_cons, List.map_nil, Option.map_some, Option.map_none, List.nil_append, ↓reduceIte, vcu, ↓vcd, h6, h7, h8]
      refine ⟨⟨trivial, trivial, trivial⟩, m - 1, by omega, k + 1, by omega, by simp, s5, _, rfl, .inr ⟨g', q', ?_, by rw [htk]; exact hO5⟩⟩
      simp; omega
  · have e : k = n := by omega
    subst e
    simp -implicitDefEqProofs (disch := omega) only [List.any_cons, List.any_nil, Nat.reduceEqDiff, List.map_cons, List.map_nil, Option.map_some, Option.map_none, List.nil_append, ↓reduceIte, vcu, ↓vcd, h3, h6, h7, h8]
    rw [List.take_of_length_le (by omega)] at hO
    refine fin_one Try.results58 ⟨hs, ?_⟩
    simp -implicitDefEqProofs (disch := omega) only [List.any_cons, List.any_nil, Nat.reduceEqDiff, List.map_cons, List.map_nil, Option.map_some, Option.map_none, List.nil_append, ↓reduceIte, vcu, ↓vcd]
    exact hO
end Go.Proofs.Ytpcbgdgfdfpapaa

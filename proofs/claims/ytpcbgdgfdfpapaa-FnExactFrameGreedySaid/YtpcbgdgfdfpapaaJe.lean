/- The program: the best frame. -/
import Derived.Test.YtpcbgdgfdfpapaaJd
set_option linter.unusedSimpArgs false
set_option linter.unusedVariables false
namespace Go.Proofs.Ytpcbgdgfdfpapaa
open Go Go.Abs Go.RowKit Go.Frames
variable {w0 : World}

theorem implFillN_at (σ : AHeap) (h o : Nat) (T : List (List Int)) (hv : RowsAt σ h o T) (hl : T.length ≤ 1048576) :
    ACall Try.prog w0 36 [.slice (some ⟨h, o, none⟩) T.length 1] σ fun r σ' => Sub σ σ' ∧ ∃ g q, r = .slice (some ⟨g, 0, none⟩) (fillB T).length 1 ∧ OwnT σ σ' g q (fillB T) := by
  refine (implFill_at σ h o T hv hl).named1 (z := 1) ?_
  rintro r σ' ⟨hs, ⟨rfl, e⟩ | ⟨g, q, rfl, hO⟩⟩
  · refine .inr ⟨rfl, fun g hg => ⟨hs.trans (sub_upd hg), g, fun _ => 0, by rw [e]; rfl, by rw [e]; exact OwnT.nil _ (AHeap.upd_same _ _ _) (free_sub hs hg)⟩⟩
  · exact .inl ⟨hs, g, q, rfl, hO⟩
/-- what is filled up, with the traffic added up to a place -/
def addX (n : Nat) (X T : List (List Int)) (K J : Nat) : List (List Int) := tabN n fun a b => en X a b + if a < K ∨ (a = K ∧ b < J) then en T a b else 0
theorem addX_zero {n : Nat} {X : List (List Int)} (h : Sq n X) (T : List (List Int)) : addX n X T 0 0 = X := by
  rw [tab_of h]; exact tabN_ext fun a b ha hb => by rw [if_neg (by omega), ← tab_of h]; omega
theorem addX_next (n : Nat) (X T : List (List Int)) (K : Nat) : addX n X T K n = addX n X T (K + 1) 0 := tabN_ext fun a b ha hb => by
  by_cases e : a < K + 1
  · rw [if_pos (by omega), if_pos (.inl e)]
  · rw [if_neg (by omega), if_neg (by omega)]
theorem addX_done (n : Nat) (X T : List (List Int)) : addX n X T n 0 = bothT n T X := tabN_ext fun a b ha hb => by rw [if_pos (.inl ha)]; omega
theorem addX_at {n : Nat} (X T : List (List Int)) {K J : Nat} (hK : K < n) (hJ : J < n) : en (addX n X T K J) K J = en X K J := by
  rw [addX, en_tabN _ hK hJ, if_neg (by omega)]; omega
theorem addX_step {n : Nat} (X T : List (List Int)) {K J : Nat} (hK : K < n) (hJ : J < n) :
    (addX n X T K J).set K (((addX n X T K J).getD K []).set J (en X K J + en T K J)) = addX n X T K (J + 1) := by
  unfold addX
  rw [set_tab _ hK hJ]
  refine tabN_ext fun a b ha hb => ?_
  by_cases e : a = K ∧ b = J
  · obtain ⟨rfl, rfl⟩ := e
    rw [if_pos ⟨rfl, rfl⟩, if_pos (.inr ⟨rfl, by omega⟩)]
  · rw [if_neg e]
    by_cases e2 : a < K ∨ (a = K ∧ b < J)
    · rw [if_pos e2, if_pos (by omega)]
    · rw [if_neg e2, if_neg (by omega)]

theorem filled_at (σ : AHeap) (h o : Nat) (T : List (List Int)) (hv : RowsAt σ h o T) (hl : T.length ≤ 1048576) (hT : TV T) :
    ACall Try.prog w0 66 [.slice (some ⟨h, o, none⟩) T.length 1] σ fun r σ' => Sub σ σ' ∧ ∃ g q, r = .slice (some ⟨g, 0, none⟩) T.length 1 ∧ OwnT σ σ' g q (bothT T.length T (fillV T)) := by
  have h6 := hT.1
  have hsqF : Sq T.length (fillV T) := tabN_sq _ _
  refine acall_go mixed Try.func66 rfl good66 fun pr => ?_
  simp -implicitDefEqProofs (disch := omega) only [List.any_cons, List.any_nil, Nat.reduceEqDiff, List.map_cons, List.map_nil, Option.map_some, Option.map_none, List.nil_append, ↓reduceIte, vcu, ↓vcd]
  refine (implFillN_at σ h o T hv hl).mono ?_
  rintro r τ ⟨s1, g, q, rfl, hO⟩
  unfold fillB at hO ⊢
  rw [if_pos hT] at hO ⊢
  rw [hsqF.1]
  have hO0 : OwnT σ τ g q (addX T.length (fillV T) T 0 0) := by rw [addX_zero hsqF]; exact hO
  clear hO
  simp -implicitDefEqProofs (disch := omega) only [List.any_cons, List.any_nil, Nat.reduceEqDiff, List.map_cons, List.map_nil, Option.map_some, Option.map_none, List.nil_append, ↓reduceIte, vcu, ↓vcd, opK_some]
  refine vc_loop_c mixed (by kernel_rfl) [3, 10, 11] (fun m a σ' => ∃ K : Nat, m + K = T.length ∧ a 12 = .int .i64 K ∧ Sub σ σ' ∧ OwnT σ σ' g q (addX T.length (fillV T) T K 0)) T.length ⟨0, by simp, rfl, s1, hO0⟩ ?_
  clear hO0 s1
  rintro m a σ1 hc ⟨K, hK, h12, hs, hO⟩
  simp -implicitDefEqProofs (disch := omega) only [List.any_cons, List.any_nil, Nat.reduceEqDiff, List.map_cons, List.map_nil, Option.map_some, Option.map_none, List.nil_append, ↓reduceIte, vcu, ↓vcd] at hc
  obtain ⟨h3, h10, h11, -⟩ := hc
  by_cases hKl : K < T.length
  · obtain ⟨v, hx0, hi⟩ := hv K hKl
    have hx := ld_sub hs hx0
    have hr := hT.2 K hKl
    have hr1 := hr.1
    rcases hi with ⟨rfl, e⟩ | ⟨rg, ro, rfl, hat⟩
    · rw [e] at hr1; simp at hr1; omega
    rw [hr1] at hx
    simp -implicitDefEqProofs (disch := omega) only [List.any_cons, List.any_nil, Nat.reduceEqDiff, List.map_cons, List.map_nil, Option.map_some, Option.map_none, List.nil_append, ↓reduceIte, vcu, ↓vcd, h3, h10, h11, h12, hx]
    refine vc_loop_c mixed (by kernel_rfl) [3, 4, 10, 11, 12, 17, 18] (fun m a σ' => ∃ J : Nat, m + J = T.length ∧ a 19 = .int .i64 J ∧ Sub σ σ' ∧ OwnT σ σ' g q (addX T.length (fillV T) T K J)) T.length ⟨0, by simp, rfl, hs, hO⟩ ?_
    clear hO hs hx
    rintro m2 a2 σ2 hc2 ⟨J, hJ, h19, hs, hO⟩
    simp -implicitDefEqProofs (disch := omega) only [List.any_cons, List.any_nil, Nat.reduceEqDiff, List.map_cons, List.map_nil, Option.map_some, Option.map_none, List.nil_append, ↓reduceIte, vcu, ↓vcd, h3, h10, h11, h12] at hc2
    obtain ⟨d3, d4, d10, d11, d12, d17, d18, -⟩ := hc2
    by_cases hJl : J < T.length
    · have hsqX : Sq T.length (addX T.length (fillV T) T K J) := tabN_sq _ _
      have hgX := hO.get (i := K) (by rw [hsqX.1]; exact hKl)
      have hrX := hO.row K (by rw [hsqX.1]; exact hKl)
      have hlX := hsqX.2 K hKl
      rw [hlX] at hgX
      have hy := (hat.sub hs) J (by omega)
      have hy2 : (T.getD K []).getD J 0 = en T K J := rfl
      have hz : ld σ2 (q K) (0 + J) = some (.int .i64 (en (fillV T) K J)) := by rw [own_at hrX (by rw [hlX]; exact hJl), ← addX_at (fillV T) T hKl hJl]; rfl
      have b1 := hT.at hKl hJl
      have b2 := fillV_le hT hKl hJl
      have hst := addX_step (fillV T) T hKl hJl
      rw [hy2] at hy b1
      generalize en T K J = x at *
      generalize en (fillV T) K J = y at *
      simp -implicitDefEqProofs (disch := omega) only [List.any_cons, List.any_nil, Nat.reduceEqDiff, List.map_cons, List.map_nil, Option.map_some, Option.map_none, List.nil_append, ↓reduceIte, vcu, ↓vcd, d3, d4, d10, d11, d12, d17, d18, h19, hy, hgX, hz]
      refine r_setI (g := q K) (i := 0 + J) (v := y + x) (by simp -implicitDefEqProofs (disch := omega) only [List.any_cons, List.any_nil, Nat.reduceEqDiff, List.map_cons, List.map_nil, Option.map_some, Option.map_none, List.nil_append, ↓reduceIte, vcu, ↓vcd]) (by simp -implicitDefEqProofs (disch := omega) only [List.any_cons, List.any_nil, Nat.reduceEqDiff, List.map_cons, List.map_nil, Option.map_some, Option.map_none, List.nil_append, ↓reduceIte, vcu, ↓vcd]) co3 hrX (by omega) fun τ5 k5 e5 => ?_
      rw [Nat.zero_add] at e5
      have O5 := hO.write (by rw [hsqX.1]; exact hKl) (by simp) k5 e5
      rw [hst] at O5
      simp -implicitDefEqProofs (disch := omega) only [List.any_cons, List.any_nil, Nat.reduceEqDiff, List.map_cons, List.map_nil, Option.map_some, Option.map_none, List.nil_append, ↓reduceIte, vcu, ↓vcd, d3, d4, d10, d11, d12, d17, d18, h19]
      refine ⟨by simp [d3, d4, d10, d11, d12, d17, d18, h3, h10, h11, h12], m2 - 1, by omega, J + 1, by omega, by simp, k5.sub hs (hO.free K (by rw [hsqX.1]; exact hKl)), O5⟩
    · have e : J = T.length := by omega
      rw [e, addX_next] at hO
      simp -implicitDefEqProofs (disch := omega) only [List.any_cons, List.any_nil, Nat.reduceEqDiff, List.map_cons, List.map_nil, Option.map_some, Option.map_none, List.nil_append, ↓reduceIte, vcu, ↓vcd, d3, d4, d10, d11, d12, d17, d18, h19]
      refine ⟨by simp [d3, d10, d11, h3, h10, h11], m - 1, by omega, K + 1, by omega, by simp, hs, hO⟩
  · have e : K = T.length := by omega
    rw [e, addX_done] at hO
    simp -implicitDefEqProofs (disch := omega) only [List.any_cons, List.any_nil, Nat.reduceEqDiff, List.map_cons, List.map_nil, Option.map_some, Option.map_none, List.nil_append, ↓reduceIte, vcu, ↓vcd, h3, h10, h11, h12]
    refine fin_one Try.results66 ⟨hs, g, q, ?_, hO⟩
    simp -implicitDefEqProofs (disch := omega) only [List.any_cons, List.any_nil, Nat.reduceEqDiff, List.map_cons, List.map_nil, Option.map_some, Option.map_none, List.nil_append, ↓reduceIte, vcu, ↓vcd, h3]

/-- nil, or a row of its own that is none of some handles -/
def LI (F : Nat → Prop) (σ : AHeap) (v : Value) (xs : List Int) : Prop := (v = .slice none 0 0 ∧ xs = []) ∨ ∃ g, v = .slice (some ⟨g, 0, none⟩) xs.length 1 ∧ σ g = some ⟨ints .i64 xs, false⟩ ∧ ¬ F g
theorem LI.sub {F : Nat → Prop} {σ τ : AHeap} {v : Value} {xs : List Int} (h : LI F σ v xs) (hs : Sub σ τ) : LI F τ v xs := h.imp id fun ⟨g, e, hg, hn⟩ => ⟨g, e, hs _ _ hg, hn⟩
theorem LI.kept {F : Nat → Prop} {σ τ : AHeap} {v : Value} {xs : List Int} {x : Nat} (h : LI F σ v xs) (hk : Kept x σ τ) (hx : F x) : LI F τ v xs := h.imp id fun ⟨g, e, hg, hn⟩ => ⟨g, e, hk.at hg (fun e => hn (e ▸ hx)), hn⟩
theorem LI.add {F : Nat → Prop} {σ : AHeap} {v : Value} {xs : List Int} {x : Nat} (h : LI F σ v xs) (hx : σ x = none) : LI (fun k => F k ∨ k = x) σ v xs :=
  h.imp id fun ⟨g, e, hg, hn⟩ => ⟨g, e, hg, fun hh => hh.elim hn fun e => by rw [e, hx] at hg; cases hg⟩
theorem LI.weak {F G : Nat → Prop} {σ : AHeap} {v : Value} {xs : List Int} (h : LI F σ v xs) (hw : ∀ k, G k → F k) : LI G σ v xs := h.imp id fun ⟨g, e, hg, hn⟩ => ⟨g, e, hg, fun hh => hn (hw _ hh)⟩
theorem r_pushF {b0 : Base} {P : Program} {a : AFrame} {σ : AHeap} {K : AK} {all os : List Oper} {d : Nat} {ty : TypeId} {pos : String} {af : Array Go.Edge} {t u : TypeId} {zv : Value} {b : Nat} {x y : Operand} {v : Value} {e o m : Nat} {F : Nat → Prop} {cs ds : List Int}
    (hE : Elems P t 1 zv b) (hb : b ≤ 64) (hu : ∃ e2, P.underlying u = some (.slice e2)) (hx : ev a x = v) (hv : LI F σ v cs) (hF : ∀ k, F k → ∃ ob, σ k = some ob) (hy : ev a y = .slice (some ⟨e, o, none⟩) m 1) (he : IntsAt .i64 σ e o ds) (hm : ds.length = m) (hl : cs.length + m ≤ 1048576)
    (hk : ∀ v' τ, LI F τ v' (cs ++ ds) → (∀ k ob, F k → σ k = some ob → τ k = some ob) → vcR P b0 false all os (fset a d v') τ K) :
    vcR P b0 false all (⟨some d, .call ⟨.builtin .append, #[x, y], #[t, u]⟩, ty, pos, af, none⟩ :: os) a σ K := by
  have fresh : ∀ g', σ g' = none → ¬ F g' := fun g' h hf => by obtain ⟨ob, e⟩ := hF _ hf; rw [h] at e; cases e
  rcases hv with ⟨rfl, rfl⟩ | ⟨g, rfl, hg, hn⟩
  · refine r_pushI_nil hE hb hu hx hy he hm (by simp at hl; omega) fun g' τ h1 h2 h3 => ?_
    exact hk _ τ (.inr ⟨g', by simp [hm], by simpa using h3, fresh _ h1⟩) (fun k ob _ e => h2 _ _ e)
  · refine r_pushI hE hb hu hx hg rfl hy he hm (by omega) fun g' τ h1 h2 h3 => ?_
    exact hk _ τ (.inr ⟨g', by simp [hm], h3, fresh _ h1⟩) (fun k ob hf e => h2.at e fun e2 => hn (e2 ▸ hf))

/-- both tables together while a slot is made -/
def bothK (n : Nat) (L X : List (List Int)) (p : List Int) (K : Nat) : List (List Int) := tabN n fun a b => en L a b + en X a b - if a < K ∧ p.getD a 0 = (b : Int) then 1 else 0
theorem bothK_zero (n : Nat) (L X : List (List Int)) (p : List Int) : bothK n L X p 0 = bothT n L X := tabN_ext fun a b ha hb => by rw [if_neg (by omega)]; omega
theorem bothK_done (n : Nat) (L X : List (List Int)) (p : List Int) : bothK n L X p n = bothT n (goL n L p n) (goX n L X p n) := tabN_ext fun a b ha hb => by
  rw [goL, goX, en_tabN _ ha hb, en_tabN _ ha hb]
  by_cases h : p.getD a 0 = (b : Int)
  · rw [if_pos ⟨ha, h⟩]
    by_cases h2 : 0 < en L a b
    · rw [if_pos ⟨ha, h, h2⟩, if_neg fun hh => hh.2.2 h2]; omega
    · rw [if_neg fun hh => h2 hh.2.2, if_pos ⟨ha, h, h2⟩]; omega
  · rw [if_neg fun hh => h hh.2, if_neg fun hh => h hh.2.1, if_neg fun hh => h hh.2.1]; omega
theorem bothK_at {n : Nat} (L X : List (List Int)) (p : List Int) {K b : Nat} (hK : K < n) (hb : b < n) : en (bothK n L X p K) K b = en L K b + en X K b := by
  rw [bothK, en_tabN _ hK hb, if_neg (by omega)]; omega
theorem bothK_step {n : Nat} (L X : List (List Int)) (p : List Int) {K : Nat} (hK : K < n) (hp : 0 ≤ p.getD K 0 ∧ p.getD K 0 < n) :
    (bothK n L X p K).set K (((bothK n L X p K).getD K []).set (p.getD K 0).toNat (en L K (p.getD K 0).toNat + en X K (p.getD K 0).toNat - 1)) = bothK n L X p (K + 1) := by
  unfold bothK
  rw [set_tab _ hK (by omega)]
  refine tabN_ext fun a b ha hb => ?_
  by_cases c : a = K ∧ b = (p.getD K 0).toNat
  · rw [if_pos c, if_pos ⟨by omega, by rw [c.1]; omega⟩, c.1, c.2]
  · rw [if_neg c]
    congr 1
    by_cases c2 : a < K ∧ p.getD a 0 = (b : Int)
    · rw [if_pos c2, if_pos ⟨by omega, c2.2⟩]
    · rw [if_neg c2, if_neg]
      rintro ⟨h1, h2⟩
      by_cases e2 : a = K
      · subst e2; exact c ⟨rfl, by omega⟩
      · exact c2 ⟨by omega, h2⟩
theorem bestF_row {T : List (List Int)} {s : Nat} : ∀ row ∈ bestF T s, row.length = T.length := fun row h => by
  obtain ⟨i, _, rfl⟩ := List.mem_map.1 h
  exact slB_length _ _ _
theorem bestF_length (T : List (List Int)) (s : Nat) : (bestF T s).length = s := by simp [bestF]
theorem flat_len {k : Nat} : ∀ rows : List (List Int), (∀ row ∈ rows, row.length = k) → rows.flatten.length = rows.length * k
  | [], _ => by simp
  | r :: rows, h => by
    rw [List.flatten_cons, List.length_append, h r (by simp), flat_len rows fun row hm => h row (by simp [hm]), List.length_cons, Nat.add_mul, Nat.one_mul, Nat.add_comm]
end Go.Proofs.Ytpcbgdgfdfpapaa

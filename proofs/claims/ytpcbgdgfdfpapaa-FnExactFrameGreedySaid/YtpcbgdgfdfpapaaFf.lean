/- The reference: the best frame. -/
import Derived.Test.YtpcbgdgfdfpapaaFe
import Derived.Test.YtpcbgdgfdfpapaaSb
set_option linter.unusedSimpArgs false
set_option linter.unusedVariables false
namespace Go.Proofs.Ytpcbgdgfdfpapaa
open Go Go.Abs Go.RowKit Go.Frames
variable {w0 : World}

theorem specLeft0_at (σ : AHeap) (h o : Nat) (T : List (List Int)) (hv : RowsAt σ h o T) (hl : T.length ≤ 1048576) :
    ACall Try.prog w0 28 [.slice (some ⟨h, o, none⟩) T.length 1, .slice none 0 0] σ fun r σ' => Sub σ σ' ∧ ∃ g q, r = .slice (some ⟨g, 0, none⟩) (leftB T).length 1 ∧ OwnT σ σ' g q (leftB T) := by
  refine ACall.nil_arg (pre := [_]) (post := []) (z := 1) (by kernel_rfl) fun gz hz => ?_
  refine (specLeft_at _ h o gz 0 T [] (hv.sub (sub_upd hz)) hl (fun i hi => absurd hi (by simp)) (by simp) (fun i hi => absurd hi (by simp))).mono ?_
  rintro r σ' ⟨s1, g, q, rfl, hO⟩
  exact ⟨(sub_upd hz).trans s1, g, q, rfl, hO.base (sub_upd hz)⟩
/-- the handles of two tables are others when one was there before the other -/
theorem OwnT.apart2 {β σ σ2 τ : AHeap} {g g2 n n2 : Nat} {q q2 : Nat → Nat} {A B : List (List Int)} (hA : OwnT β σ g q A) (hn : A.length = n) (hB : OwnT σ2 τ g2 q2 B) (hn2 : B.length = n2) (hs : Sub σ σ2) : ∀ k, FL g q n k → ¬ FL g2 q2 n2 k := fun k h1 h2 => by
  obtain ⟨ob, e⟩ := hA.hasF hn k h1
  have e := hs _ _ e
  rcases h2 with rfl | ⟨i, hi, rfl⟩
  · rw [hB.new] at e; cases e
  · rw [hB.free i (by omega)] at e; cases e
theorem Apart.weak {σ0 σ : AHeap} {F G : Nat → Prop} {v : Value} {O : List (List Int)} (h : Apart σ0 σ F v O) (hw : ∀ k, G k → F k) : Apart σ0 σ G v O :=
  h.imp id fun ⟨go, qo, e, ho, a, b⟩ => ⟨go, qo, e, ho, fun hh => a (hw _ hh), fun i hi hh => b i hi (hw _ hh)⟩
theorem OwnT.kF {σ0 σ τ : AHeap} {g n : Nat} {q : Nat → Nat} {L : List (List Int)} (h : OwnT σ0 σ g q L) (hn : L.length = n) {x : Nat} (hk : Kept x σ τ) (hx : ¬ FL g q n x) : OwnT σ0 τ g q L :=
  h.keepF hn fun k ob hF e => hk.at e fun e2 => hx (e2 ▸ hF)
theorem bestF_succ (T : List (List Int)) (s : Nat) : bestF T (s + 1) = bestF T s ++ [slB (bestS T s).1 (bestP T s) T.length] := by simp [bestF, List.range_succ]
theorem slB_length (L : List (List Int)) (p : List Int) (K : Nat) : (slB L p K).length = K := by simp [slB]
theorem slB_succ (L : List (List Int)) (p : List Int) (K : Nat) : slB L p (K + 1) = slB L p K ++ [if 0 < en L K (p.getD K 0).toNat then p.getD K 0 else -1] := by simp [slB, List.range_succ]
/-- one step of the slot: the table that has the unit loses it, the other one stays -/
theorem goL_yes {n : Nat} {L : List (List Int)} {p : List Int} {K : Nat} (hK : K < n) (hp : 0 ≤ p.getD K 0 ∧ p.getD K 0 < n) (h : 0 < en L K (p.getD K 0).toNat) :
    goL n L p (K + 1) = less1 (goL n L p K) K (p.getD K 0).toNat ∧ en (goL n L p K) K (p.getD K 0).toNat = en L K (p.getD K 0).toNat := by
  have e : en (goL n L p K) K (p.getD K 0).toNat = en L K (p.getD K 0).toNat := by
    rw [goL, en_tabN _ hK (by omega), if_neg (by omega)]; omega
  refine ⟨?_, e⟩
  unfold less1
  rw [e]
  unfold goL
  rw [set_tab _ hK (by omega)]
  refine tabN_ext fun a b ha hb => ?_
  by_cases c : a = K ∧ b = (p.getD K 0).toNat
  · rw [if_pos c, if_pos ⟨by omega, by rw [c.1]; omega, by rw [c.1, c.2]; exact h⟩, c.1, c.2]
  · rw [if_neg c]
    congr 1
    by_cases c2 : a < K ∧ p.getD a 0 = (b : Int) ∧ 0 < en L a b
    · rw [if_pos c2, if_pos ⟨by omega, c2.2⟩]
    · rw [if_neg c2, if_neg]
      rintro ⟨h1, h2, h3⟩
      by_cases e2 : a = K
      · subst e2; exact c ⟨rfl, by omega⟩
      · exact c2 ⟨by omega, h2, h3⟩
theorem goL_no {n : Nat} {L : List (List Int)} {p : List Int} {K : Nat} (h : ¬ 0 < en L K (p.getD K 0).toNat) : goL n L p (K + 1) = goL n L p K := by
  unfold goL
  refine tabN_ext fun a b ha hb => ?_
  congr 1
  by_cases c2 : a < K ∧ p.getD a 0 = (b : Int) ∧ 0 < en L a b
  · rw [if_pos c2, if_pos ⟨by omega, c2.2⟩]
  · rw [if_neg c2, if_neg]
    rintro ⟨h1, h2, h3⟩
    by_cases e2 : a = K
    · subst e2
      have : (p.getD a 0).toNat = b := by omega
      rw [this] at h; exact h h3
    · exact c2 ⟨by omega, h2, h3⟩
theorem goX_no {n : Nat} {L X : List (List Int)} {p : List Int} {K : Nat} (hK : K < n) (hp : 0 ≤ p.getD K 0 ∧ p.getD K 0 < n) (h : ¬ 0 < en L K (p.getD K 0).toNat) :
    goX n L X p (K + 1) = less1 (goX n L X p K) K (p.getD K 0).toNat ∧ en (goX n L X p K) K (p.getD K 0).toNat = en X K (p.getD K 0).toNat := by
  have e : en (goX n L X p K) K (p.getD K 0).toNat = en X K (p.getD K 0).toNat := by
    rw [goX, en_tabN _ hK (by omega), if_neg (by omega)]; omega
  refine ⟨?_, e⟩
  unfold less1
  rw [e]
  unfold goX
  rw [set_tab _ hK (by omega)]
  refine tabN_ext fun a b ha hb => ?_
  by_cases c : a = K ∧ b = (p.getD K 0).toNat
  · rw [if_pos c, if_pos ⟨by omega, by rw [c.1]; omega, by rw [c.1, c.2]; exact h⟩, c.1, c.2]
  · rw [if_neg c]
    congr 1
    by_cases c2 : a < K ∧ p.getD a 0 = (b : Int) ∧ ¬ 0 < en L a b
    · rw [if_pos c2, if_pos ⟨by omega, c2.2⟩]
    · rw [if_neg c2, if_neg]
      rintro ⟨h1, h2, h3⟩
      by_cases e2 : a = K
      · subst e2; exact c ⟨rfl, by omega⟩
      · exact c2 ⟨by omega, h2, h3⟩
theorem goX_yes {n : Nat} {L X : List (List Int)} {p : List Int} {K : Nat} (h : 0 < en L K (p.getD K 0).toNat) : goX n L X p (K + 1) = goX n L X p K := by
  unfold goX
  refine tabN_ext fun a b ha hb => ?_
  congr 1
  by_cases c2 : a < K ∧ p.getD a 0 = (b : Int) ∧ ¬ 0 < en L a b
  · rw [if_pos c2, if_pos ⟨by omega, c2.2⟩]
  · rw [if_neg c2, if_neg]
    rintro ⟨h1, h2, h3⟩
    by_cases e2 : a = K
    · subst e2
      have : (p.getD a 0).toNat = b := by omega
      rw [this] at h; exact h3 h
    · exact c2 ⟨by omega, h2, h3⟩
theorem goL_zero {n : Nat} {L : List (List Int)} (h : Sq n L) (p : List Int) : goL n L p 0 = L := by
  rw [tab_of h]; exact tabN_ext fun a b ha hb => by rw [if_neg (by omega), ← tab_of h]; omega
theorem goX_zero {n : Nat} {L X : List (List Int)} (h : Sq n X) (p : List Int) : goX n L X p 0 = X := by
  rw [tab_of h]; exact tabN_ext fun a b ha hb => by rw [if_neg (by omega), ← tab_of h]; omega
end Go.Proofs.Ytpcbgdgfdfpapaa

/- Every input of 0 and 1 comes of a permutation; all permutations, one after the other. -/
import Derived.Test.YtnkpoflhdfchjaaOi
import Derived.KernelRfl
set_option linter.unusedSimpArgs false
set_option linter.unusedVariables false
namespace Go.Proofs.Ytnkpoflhdfchjaa
open Go Go.Abs Go.RowKit

def ofT : Nat → List Int → Nat → List Int → List Int
  | 0, _, _, out => out
  | m + 1, lf, r, out => ofT m (lf.take (r / fac m) ++ lf.drop (r / fac m + 1)) (r % fac m) (out ++ [lf.getD (r / fac m) 0])
theorem ofT_eq (n r : Nat) : ∀ m k, k + m = n → (ofS n r n).2.2 = ofT m (ofS n r k).1 (ofS n r k).2.1 (ofS n r k).2.2
  | 0, k, h => by have : k = n := by omega
                  subst this; rfl
  | m + 1, k, h => by
    have e : n - 1 - k = m := by omega
    rw [ofT_eq n r m (k + 1) (by omega)]
    simp only [ofS, ofT, e]
def stab : List Int → Int → Int → List Int
  | [], _, _ => []
  | b :: bs, z, o => if b = 0 then z :: stab bs (z + 1) o else o :: stab bs z (o + 1)
def rnk : List Int → Nat
  | [] => 0
  | x :: xs => xs.countP (fun y => decide (y < x)) * fac xs.length + rnk xs
def zer (b : List Int) : Int := (b.countP fun x => decide (x = 0) : Nat)
def stabOK (n k : Nat) : Bool := decide (rnk (stab (bitsL n k) 0 (zer (bitsL n k))) < fac n) && ((ofT n (idl n) (rnk (stab (bitsL n k) 0 (zer (bitsL n k)))) []).map (thr (zer (bitsL n k))) == bitsL n k)
theorem stab_all : (List.range 7).all (fun n => (List.range (2 ^ n)).all (stabOK n)) = true := by kernel_rfl
theorem perm_of_bits {n k : Nat} (hn : n ≤ 6) (hk : k < 2 ^ n) : ∃ r : Nat, r < 720 ∧ OfOk n r ∧ ∃ t, (ofV n r).map (thr t) = bitsL n k := by
  have h := List.all_eq_true.1 (List.all_eq_true.1 stab_all n (List.mem_range.2 (by omega))) k (List.mem_range.2 hk)
  unfold stabOK at h
  rw [Bool.and_eq_true, decide_eq_true_eq, beq_iff_eq] at h
  obtain ⟨h1, h2⟩ := h
  generalize rnk (stab (bitsL n k) 0 (zer (bitsL n k))) = r at h1 h2
  have hok : OfOk n r := ⟨by omega, by omega, by omega, by simpa using h1⟩
  have hf := (fac_le hn).2
  refine ⟨r, by omega, hok, zer (bitsL n k), ?_⟩
  unfold ofV
  rw [if_pos hok, Int.toNat_natCast, Int.toNat_natCast, ofT_eq n r n 0 (by omega)]
  exact h2
theorem ofV_length {n r : Nat} (h : OfOk n r) : (ofV n r).length = n := by
  unfold ofV
  rw [if_pos h, Int.toNat_natCast, Int.toNat_natCast]
  unfold OfOk at h
  rw [Int.toNat_natCast] at h
  exact (ofS_inv (by omega) n (Nat.le_refl _)).2.2
def allB (cs : List (Int × Int)) (n : Nat) : Nat → Bool
  | 0 => true
  | j + 1 => allB cs n j && (!decide (OfOk n j) || decide (Up (runs cs (ofV n j))))
theorem allB_true {cs : List (Int × Int)} {n : Nat} : ∀ {M : Nat}, allB cs n M = true → ∀ j : Nat, j < M → OfOk n j → Up (runs cs (ofV n j))
  | 0, _, j, hj => absurd hj (by omega)
  | M + 1, h, j, hj => by
    simp only [allB, Bool.and_eq_true, Bool.or_eq_true, Bool.not_eq_true', decide_eq_false_iff_not, decide_eq_true_eq] at h
    intro hok
    by_cases e : j = M
    · subst e
      rcases h.2 with h2 | h2
      · exact absurd hok h2
      · exact h2
    · exact allB_true h.1 j (by omega) hok
theorem allB_of {cs : List (Int × Int)} {n : Nat} : ∀ {M : Nat}, (∀ j : Nat, j < M → OfOk n j → Up (runs cs (ofV n j))) → allB cs n M = true
  | 0, _ => rfl
  | M + 1, h => by
    simp only [allB, Bool.and_eq_true, Bool.or_eq_true, Bool.not_eq_true', decide_eq_false_iff_not, decide_eq_true_eq]
    refine ⟨allB_of fun j hj => h j (by omega), ?_⟩
    by_cases hok : OfOk n M
    · exact .inr (h M (by omega) hok)
    · exact .inl hok
theorem allB_srt {cs : List (Int × Int)} {n : Nat} (hN : NV n cs) : allB cs n 720 = decide (Srt n cs) := by
  have hn : n ≤ 6 := by have := hN.1; omega
  by_cases hS : Srt n cs
  · rw [decide_eq_true hS]
    have h2 := hS.2
    rw [Int.toNat_natCast] at h2
    exact allB_of fun j hj hok => sorts_all (fault_none.1 h2) _ (ofV_length hok) hN.2
  · rw [decide_eq_false hS]
    cases hb : allB cs n 720 with
    | false => rfl
    | true =>
      exfalso
      refine hS ⟨hN, ?_⟩
      rw [Int.toNat_natCast]
      refine fault_none.2 fun k hk => ?_
      obtain ⟨r, h1, h2, t, h3⟩ := perm_of_bits hn hk
      rw [← h3, runs_map _ (thr_mono t) cs _ (by rw [ofV_length h2]; exact hN.2)]
      exact up_map (thr_mono t) (allB_true hb r h1 h2)
end Go.Proofs.Ytnkpoflhdfchjaa

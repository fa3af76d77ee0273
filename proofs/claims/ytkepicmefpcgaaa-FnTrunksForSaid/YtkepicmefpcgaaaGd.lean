/- Blocking, by the reference: the sum, what is taken, the parts. -/
import Derived.Test.YtkepicmefpcgaaaGc
set_option linter.unusedSimpArgs false
set_option linter.unusedVariables false
namespace Go.Proofs.Ytkepicmefpcgaaa
open Go Go.Abs Go.RowKit
variable {w0 : World}

theorem fromTo_self (n : Nat) : fromTo n n = 1 := by
  cases n with
  | zero => rfl
  | succ n => unfold fromTo; rw [if_neg (by omega)]
theorem fromTo_succ {n t : Nat} (h : n ≤ t) : fromTo n (t + 1) = fromTo n t * (t + 1) := by simp [fromTo, h]
theorem fromTo_le {n : Nat} : ∀ t, t ≤ 8 → fromTo n t ≤ 8 ^ t
  | 0, _ => by simp [fromTo]
  | t + 1, h => by
    have ih := fromTo_le (n := n) t (by omega)
    unfold fromTo
    split
    · rw [Nat.pow_succ]; exact Nat.mul_le_mul ih (by omega)
    · exact Nat.pos_of_ne_zero (by simp)
theorem pow8 {t : Nat} (h : t ≤ 8) : 8 ^ t ≤ 16777216 := Nat.pow_le_pow_right (n := 8) (by omega) h
theorem pow6 {L n : Nat} (hL : L ≤ 6) (hn : n ≤ 8) : L ^ n ≤ 1679616 :=
  Nat.le_trans (Nat.pow_le_pow_left hL n) (Nat.pow_le_pow_right (n := 6) (by omega) hn)
theorem part_le {L n t : Nat} (hL : L ≤ 6) (hn : n ≤ 8) (ht : t ≤ 8) : L ^ n * fromTo n t ≤ 28179280429056 := by
  have := Nat.mul_le_mul (pow6 hL hn) (Nat.le_trans (fromTo_le (n := n) t ht) (pow8 ht))
  omega
theorem sumN_le {f : Nat → Nat} {B : Nat} : ∀ n, (∀ i, i < n → f i ≤ B) → sumN f n ≤ n * B
  | 0, _ => by simp [sumN]
  | n + 1, h => by
    have h1 := sumN_le n fun i hi => h i (by omega)
    have h2 := h n (by omega)
    rw [sumN, Nat.add_mul]; omega
theorem sumN_pos {f : Nat → Nat} (h : 0 < f 0) : ∀ n, 0 < n → 0 < sumN f n
  | 0, h0 => by omega
  | n + 1, _ => by
    rw [sumN]
    rcases Nat.eq_zero_or_pos n with e | e
    · subst e; simp [sumN]; exact h
    · have := sumN_pos h n e; omega
def pw (L k : Nat) : Nat := L ^ k
def pt (L n t : Nat) : Nat := L ^ n * fromTo n t
theorem pw_succ (L k : Nat) : pw L (k + 1) = pw L k * L := by rw [pw, pw, Nat.pow_succ]
theorem pt_self (L n : Nat) : pt L n n = pw L n := by rw [pt, fromTo_self, Nat.mul_one, pw]
theorem pt_succ {L n t : Nat} (h : n ≤ t) : pt L n (t + 1) = pt L n t * (t + 1) := by rw [pt, pt, fromTo_succ h, Nat.mul_assoc]
/-- the last of the terms so far -/
def lastN (L t : Nat) : Nat → Nat
  | 0 => 0
  | n + 1 => term L t n
def lsN (L t : Int) : Int := if OK7 L t then ((lsum L.toNat t.toNat).1 : Int) else 0
def lsD (L t : Int) : Int := if OK7 L t then ((lsum L.toNat t.toNat).2 : Int) else 0
theorem specLS_at (σ : AHeap) (L t : Int) : ACall Try.prog w0 29 [.int .i64 L, .int .i64 t] σ fun r σ' => r = .tuple #[.agg #[.int .i64 (lsN L t), .int .i64 (lsD L t)], .bool (decide (OK7 L t))] ∧ σ' = σ := by
  unfold lsN lsD
  refine acall_goc mixed Try.func29 rfl goodc29 fun pr => ?_
  simp -implicitDefEqProofs (disch := omega) only [List.any_cons, List.any_nil, Nat.reduceEqDiff, List.map_cons, List.map_nil, Option.map_some, Option.map_none, List.nil_append, ↓reduceIte, vcu, ↓vcd]
  refine r_new ze24 fun c4 τ1 n4 s1 e4 => ?_
  replace e4 : τ1 c4 = some ⟨[.int .i64 0, .int .i64 0], false⟩ := e4
  simp -implicitDefEqProofs (disch := omega) only [List.any_cons, List.any_nil, Nat.reduceEqDiff, List.map_cons, List.map_nil, Option.map_some, Option.map_none, List.nil_append, ↓reduceIte, vcu, ↓vcd]
  refine (specOk_at τ1 L t).mono ?_
  rintro r _ ⟨rfl, rfl⟩
  rename_i τ1
  by_cases h : OK7 L t
  case neg =>
    rw [decide_eq_false h, if_neg h, if_neg h]
    simp -implicitDefEqProofs (disch := omega) only [List.any_cons, List.any_nil, Nat.reduceEqDiff, List.map_cons, List.map_nil, Option.map_some, Option.map_none, List.nil_append, ↓reduceIte, vcu, ↓vcd, opK_some, Bool.not_false]
    rw [r_build]
    refine ⟨(_, #[.int .i64 0, .int .i64 0]), ⟨ze24, by simp -implicitDefEqProofs (disch := omega) only [List.any_cons, List.any_nil, Nat.reduceEqDiff, List.map_cons, List.map_nil, Option.map_some, Option.map_none, List.nil_append, ↓reduceIte, vcu, ↓vcd]; kernel_rfl⟩, ?_⟩
    simp -implicitDefEqProofs (disch := omega) only [List.any_cons, List.any_nil, Nat.reduceEqDiff, List.map_cons, List.map_nil, Option.map_some, Option.map_none, List.nil_append, ↓reduceIte, vcu, ↓vcd]
    refine r_sets (g := c4) (i := 0) (C := [.int .i64 0, .int .i64 0]) (by simp -implicitDefEqProofs (disch := omega) only [List.any_cons, List.any_nil, Nat.reduceEqDiff, List.map_cons, List.map_nil, Option.map_some, Option.map_none, List.nil_append, ↓reduceIte, vcu, ↓vcd]) (by simp -implicitDefEqProofs (disch := omega) only [List.any_cons, List.any_nil, Nat.reduceEqDiff, List.map_cons, List.map_nil, Option.map_some, Option.map_none, List.nil_append, ↓reduceIte, vcu, ↓vcd, co24]; rfl) (by simp -implicitDefEqProofs (disch := omega) only [List.any_cons, List.any_nil, Nat.reduceEqDiff, List.map_cons, List.map_nil, Option.map_some, Option.map_none, List.nil_append, ↓reduceIte, vcu, ↓vcd]; rfl) (by simp -implicitDefEqProofs (disch := omega) only [List.any_cons, List.any_nil, Nat.reduceEqDiff, List.map_cons, List.map_nil, Option.map_some, Option.map_none, List.nil_append, ↓reduceIte, vcu, ↓vcd]; exact Nat.zero_lt_succ _) e4 (by simp -implicitDefEqProofs (disch := omega) only [List.any_cons, List.any_nil, Nat.reduceEqDiff, List.map_cons, List.map_nil, Option.map_some, Option.map_none, List.nil_append, ↓reduceIte, vcu, ↓vcd]; exact Nat.le_refl _) fun τ2 k2 e2 => ?_
    replace e2 : τ2 c4 = some ⟨[.int .i64 0, .int .i64 0], false⟩ := e2
    have l2 : lds τ2 c4 0 2 = some [.int .i64 0, .int .i64 0] := lds_two (ld_of e2 rfl) (ld_of e2 rfl)
    simp -implicitDefEqProofs (disch := omega) only [List.any_cons, List.any_nil, Nat.reduceEqDiff, List.map_cons, List.map_nil, Option.map_some, Option.map_none, List.nil_append, ↓reduceIte, vcu, ↓vcd]
    refine fin_ct7 Try.results29 σ (k2.sub s1 n4) (v := .agg #[.int .i64 0, .int .i64 0]) (by simp -implicitDefEqProofs (disch := omega) only [List.any_cons, List.any_nil, Nat.reduceEqDiff, List.map_cons, List.map_nil, Option.map_some, Option.map_none, List.nil_append, ↓reduceIte, vcu, ↓vcd, l2, co24]) ⟨?_, rfl⟩
    simp -implicitDefEqProofs (disch := omega) only [List.any_cons, List.any_nil, Nat.reduceEqDiff, List.map_cons, List.map_nil, Option.map_some, Option.map_none, List.nil_append, ↓reduceIte, vcu, ↓vcd]
  rw [decide_eq_true h, if_pos h, if_pos h]
  obtain ⟨⟨a1, a2⟩, a3, a4⟩ := h
  obtain ⟨L, rfl⟩ : ∃ n : Nat, L = n := ⟨L.toNat, by omega⟩
  obtain ⟨t, rfl⟩ : ∃ n : Nat, t = n := ⟨t.toNat, by omega⟩
  simp only [Int.toNat_natCast]
  have hL : L ≤ 6 := by omega
  have ht : t ≤ 8 := by omega
  simp -implicitDefEqProofs (disch := omega) only [List.any_cons, List.any_nil, Nat.reduceEqDiff, List.map_cons, List.map_nil, Option.map_some, Option.map_none, List.nil_append, ↓reduceIte, vcu, ↓vcd, opK_some, Bool.not_true]
  refine vc_loop_c mixed (by kernel_rfl) [0, 1, 4] (fun m a σ' => ∃ n : Nat, m + n = t + 1 ∧ a 6 = .int .i64 (sumN (term L t) n : Nat) ∧ a 7 = .int .i64 (lastN L t n : Nat) ∧ a 8 = .int .i64 n ∧ σ' = τ1) (t + 1) ⟨0, by simp, rfl, rfl, rfl, rfl⟩ ?_
  rintro m a σ' hc ⟨n, hn, h6, h7, h8, rfl⟩
  simp -implicitDefEqProofs (disch := omega) only [List.any_cons, List.any_nil, Nat.reduceEqDiff, List.map_cons, List.map_nil, Option.map_some, Option.map_none, List.nil_append, ↓reduceIte, vcu, ↓vcd] at hc
  obtain ⟨h0, h1, h4, -⟩ := hc
  by_cases hlt : n ≤ t
  · simp -implicitDefEqProofs (disch := omega) only [List.any_cons, List.any_nil, Nat.reduceEqDiff, List.map_cons, List.map_nil, Option.map_some, Option.map_none, List.nil_append, ↓reduceIte, vcu, ↓vcd, h0, h1, h4, h6, h7, h8]
    refine vc_loop_c mixed (by kernel_rfl) [0, 1, 4, 6, 7, 8] (fun m2 a2 σ2 => ∃ k : Nat, m2 + k = n ∧ a2 9 = .int .i64 (pw L k : Int) ∧ a2 10 = .int .i64 k ∧ σ2 = σ') n ⟨0, by simp, rfl, rfl, rfl⟩ ?_
    rintro m2 a2 σ2 hc2 ⟨k, hk, h9, h10, rfl⟩
    simp -implicitDefEqProofs (disch := omega) only [List.any_cons, List.any_nil, Nat.reduceEqDiff, List.map_cons, List.map_nil, Option.map_some, Option.map_none, List.nil_append, ↓reduceIte, vcu, ↓vcd, h0, h1, h4, h6, h7, h8] at hc2
    obtain ⟨c0, c1, c4', c6, c7, c8, -⟩ := hc2
    by_cases hkl : k < n
    · have hb := pow6 (L := L) (n := k + 1) hL (by omega)
      have hb : pw L (k + 1) ≤ 1679616 := hb
      have q : (pw L k : Int) * (L : Int) = (pw L (k + 1) : Int) := by rw [pw_succ, Int.natCast_mul]
      simp -implicitDefEqProofs (disch := omega) only [List.any_cons, List.any_nil, Nat.reduceEqDiff, List.map_cons, List.map_nil, Option.map_some, Option.map_none, List.nil_append, ↓reduceIte, vcu, ↓vcd, c0, c1, c4', c6, c7, c8, h9, h10, q]
      exact ⟨by simp [c0, c1, c4', c6, c7, c8, h0, h1, h4, h6, h7, h8], m2 - 1, by omega, k + 1, by omega, rfl, by simp, trivial⟩
    · have e : k = n := by omega
      subst e
      simp -implicitDefEqProofs (disch := omega) only [List.any_cons, List.any_nil, Nat.reduceEqDiff, List.map_cons, List.map_nil, Option.map_some, Option.map_none, List.nil_append, ↓reduceIte, vcu, ↓vcd, c0, c1, c4', c6, c7, c8, h9, h10]
      refine vc_loop_c mixed (by kernel_rfl) [0, 1, 4, 6, 7, 8] (fun m3 a3 σ3 => ∃ j : Nat, m3 + j = t ∧ k ≤ j ∧ a3 9 = .int .i64 (pt L k j : Int) ∧ a3 11 = .int .i64 ((j + 1 : Nat) : Int) ∧ σ3 = σ2) (t - k) ⟨k, by omega, by omega, by rw [pt_self]; simp -implicitDefEqProofs (disch := omega) only [List.any_cons, List.any_nil, Nat.reduceEqDiff, List.map_cons, List.map_nil, Option.map_some, Option.map_none, List.nil_append, ↓reduceIte, vcu, ↓vcd, h9], by simp -implicitDefEqProofs (disch := omega) only [List.any_cons, List.any_nil, Nat.reduceEqDiff, List.map_cons, List.map_nil, Option.map_some, Option.map_none, List.nil_append, ↓reduceIte, vcu, ↓vcd]; simp, rfl⟩ ?_
      rintro m3 a3 σ3 hc3 ⟨j, hj, hkj, h9', h11, rfl⟩
      simp -implicitDefEqProofs (disch := omega) only [List.any_cons, List.any_nil, Nat.reduceEqDiff, List.map_cons, List.map_nil, Option.map_some, Option.map_none, List.nil_append, ↓reduceIte, vcu, ↓vcd, c0, c1, c4', c6, c7, c8] at hc3
      obtain ⟨d0, d1, d4, d6, d7, d8, -⟩ := hc3
      by_cases hjl : j < t
      · have hb := part_le (L := L) (n := k) (t := j + 1) hL (by omega) (by omega)
        have hb : pt L k (j + 1) ≤ 28179280429056 := hb
        have q : (pt L k j : Int) * ((j + 1 : Nat) : Int) = (pt L k (j + 1) : Int) := by rw [pt_succ hkj, Int.natCast_mul]
        simp -implicitDefEqProofs (disch := omega) only [List.any_cons, List.any_nil, Nat.reduceEqDiff, List.map_cons, List.map_nil, Option.map_some, Option.map_none, List.nil_append, ↓reduceIte, vcu, ↓vcd, d0, d1, d4, d6, d7, d8, h9', h11, q]
        exact ⟨by simp [d0, d1, d4, d6, d7, d8, c0, c1, c4', c6, c7, c8], m3 - 1, by omega, j + 1, by omega, by omega, rfl, by simp, trivial⟩
      · have e : j = t := by omega
        subst e
        have hterm : pt L k j = term L j k := rfl
        rw [hterm] at h9'
        have hb1 : ∀ i, i ≤ j → term L j i ≤ 28179280429056 := fun i hi => part_le hL (by omega) ht
        have hb2 := sumN_le (f := term L j) (B := 28179280429056) k fun i hi => hb1 i (by omega)
        have hb3 := hb1 k hlt
        have q : ((sumN (term L j) k : Nat) : Int) + ((term L j k : Nat) : Int) = ((sumN (term L j) (k + 1) : Nat) : Int) := by rw [sumN, Int.natCast_add]
        have hlast : lastN L j (k + 1) = term L j k := rfl
        have hb4 : sumN (term L j) (k + 1) = sumN (term L j) k + term L j k := rfl
        rw [← hlast] at h9' q
        have hb5 : k * 28179280429056 ≤ 8 * 28179280429056 := Nat.mul_le_mul (by omega) (Nat.le_refl _)
        simp -implicitDefEqProofs (disch := omega) only [List.any_cons, List.any_nil, Nat.reduceEqDiff, List.map_cons, List.map_nil, Option.map_some, Option.map_none, List.nil_append, ↓reduceIte, vcu, ↓vcd, d0, d1, d4, d6, d7, d8, h9', h11, q]
        exact ⟨by simp [d0, d1, d4, c0, c1, c4', h0, h1, h4], m - 1, by omega, k + 1, by omega, rfl, rfl, by simp, trivial⟩
  · have e : n = t + 1 := by omega
    subst e
    have hP := part hL ht
    have hle : term L t t ≤ sumN (term L t) (t + 1) := by rw [sumN]; omega
    have hpos := sumN_pos (f := term L t) hP.first (t + 1) (by omega)
    have hall := hP.all
    have hlast : lastN L t (t + 1) = term L t t := rfl
    have hls : lsum L t = low (term L t t) (sumN (term L t) (t + 1)) := rfl
    rw [hlast] at h7
    simp -implicitDefEqProofs (disch := omega) only [List.any_cons, List.any_nil, Nat.reduceEqDiff, List.map_cons, List.map_nil, Option.map_some, Option.map_none, List.nil_append, ↓reduceIte, vcu, ↓vcd, h0, h1, h4, h6, h7, h8]
    refine (specLow_at σ' (term L t t) (sumN (term L t) (t + 1)) (by omega) (by omega) hpos).mono ?_
    rintro r _ ⟨rfl, rfl⟩
    rename_i σ'
    rw [← hls]
    simp -implicitDefEqProofs (disch := omega) only [List.any_cons, List.any_nil, Nat.reduceEqDiff, List.map_cons, List.map_nil, Option.map_some, Option.map_none, List.nil_append, ↓reduceIte, vcu, ↓vcd, opK_some]
    refine r_sets (g := c4) (i := 0) (C := [.int .i64 0, .int .i64 0]) (by simp -implicitDefEqProofs (disch := omega) only [List.any_cons, List.any_nil, Nat.reduceEqDiff, List.map_cons, List.map_nil, Option.map_some, Option.map_none, List.nil_append, ↓reduceIte, vcu, ↓vcd, h4]) (by simp -implicitDefEqProofs (disch := omega) only [List.any_cons, List.any_nil, Nat.reduceEqDiff, List.map_cons, List.map_nil, Option.map_some, Option.map_none, List.nil_append, ↓reduceIte, vcu, ↓vcd, co24]; rfl) (by simp -implicitDefEqProofs (disch := omega) only [List.any_cons, List.any_nil, Nat.reduceEqDiff, List.map_cons, List.map_nil, Option.map_some, Option.map_none, List.nil_append, ↓reduceIte, vcu, ↓vcd]; rfl) (by simp -implicitDefEqProofs (disch := omega) only [List.any_cons, List.any_nil, Nat.reduceEqDiff, List.map_cons, List.map_nil, Option.map_some, Option.map_none, List.nil_append, ↓reduceIte, vcu, ↓vcd]; exact Nat.zero_lt_succ _) e4 (by simp -implicitDefEqProofs (disch := omega) only [List.any_cons, List.any_nil, Nat.reduceEqDiff, List.map_cons, List.map_nil, Option.map_some, Option.map_none, List.nil_append, ↓reduceIte, vcu, ↓vcd]; exact Nat.le_refl _) fun τ3 k3 e3 => ?_
    replace e3 : τ3 c4 = some ⟨[.int .i64 ((lsum L t).1 : Int), .int .i64 ((lsum L t).2 : Int)], false⟩ := e3
    have l3 : lds τ3 c4 0 2 = some [.int .i64 ((lsum L t).1 : Int), .int .i64 ((lsum L t).2 : Int)] := lds_two (ld_of e3 rfl) (ld_of e3 rfl)
    simp -implicitDefEqProofs (disch := omega) only [List.any_cons, List.any_nil, Nat.reduceEqDiff, List.map_cons, List.map_nil, Option.map_some, Option.map_none, List.nil_append, ↓reduceIte, vcu, ↓vcd]
    refine fin_ct7 Try.results29 σ (k3.sub s1 n4) (v := .agg #[.int .i64 ((lsum L t).1 : Int), .int .i64 ((lsum L t).2 : Int)]) (by simp -implicitDefEqProofs (disch := omega) only [List.any_cons, List.any_nil, Nat.reduceEqDiff, List.map_cons, List.map_nil, Option.map_some, Option.map_none, List.nil_append, ↓reduceIte, vcu, ↓vcd, h4, l3, co24]) ⟨?_, rfl⟩
    simp -implicitDefEqProofs (disch := omega) only [List.any_cons, List.any_nil, Nat.reduceEqDiff, List.map_cons, List.map_nil, Option.map_some, Option.map_none, List.nil_append, ↓reduceIte, vcu, ↓vcd]

def tkN (L t : Int) : Int := if OK7 L t then ((taken L.toNat t.toNat).1 : Int) else 0
def tkD (L t : Int) : Int := if OK7 L t then ((taken L.toNat t.toNat).2 : Int) else 0
theorem specTL_at (σ : AHeap) (L t : Int) : ACall Try.prog w0 34 [.int .i64 L, .int .i64 t] σ fun r σ' => r = .tuple #[.agg #[.int .i64 (tkN L t), .int .i64 (tkD L t)], .bool (decide (OK7 L t))] ∧ σ' = σ := by
  unfold tkN tkD
  refine acall_goc mixed Try.func34 rfl goodc34 fun pr => ?_
  simp -implicitDefEqProofs (disch := omega) only [List.any_cons, List.any_nil, Nat.reduceEqDiff, List.map_cons, List.map_nil, Option.map_some, Option.map_none, List.nil_append, ↓reduceIte, vcu, ↓vcd]
  refine r_new ze24 fun c4 τ1 n4 s1 e4 => ?_
  replace e4 : τ1 c4 = some ⟨[.int .i64 0, .int .i64 0], false⟩ := e4
  simp -implicitDefEqProofs (disch := omega) only [List.any_cons, List.any_nil, Nat.reduceEqDiff, List.map_cons, List.map_nil, Option.map_some, Option.map_none, List.nil_append, ↓reduceIte, vcu, ↓vcd]
  refine (specLP_at τ1 L t).mono ?_
  rintro r _ ⟨rfl, rfl⟩
  rename_i τ1
  simp -implicitDefEqProofs (disch := omega) only [List.any_cons, List.any_nil, Nat.reduceEqDiff, List.map_cons, List.map_nil, Option.map_some, Option.map_none, List.nil_append, ↓reduceIte, vcu, ↓vcd, opK_some, List.getElem?_toArray, List.getElem?_cons_zero, List.getElem?_cons_succ]
  refine r_local (cs := #[.int .i64 (lpN L t), .int .i64 (lpD L t)]) ze24 (by decide) (by simp -implicitDefEqProofs (disch := omega) only [List.any_cons, List.any_nil, Nat.reduceEqDiff, List.map_cons, List.map_nil, Option.map_some, Option.map_none, List.nil_append, ↓reduceIte, vcu, ↓vcd]) (by rw [co24]; rfl) rfl rfl (Nat.zero_lt_succ _) fun c6 τ2 n6 s2 e6 => ?_
  replace e6 : τ2 c6 = some ⟨[.int .i64 (lpN L t), .int .i64 (lpD L t)], false⟩ := e6
  have d46 : c4 ≠ c6 := ne_of' n6 e4
  replace e4 := s2 _ _ e4
  have s12 := s1.trans s2
  have l0 : ld τ2 c6 (0 + 0) = some (.int .i64 (lpN L t)) := ld_of e6 rfl
  have l1 : ld τ2 c6 (0 + 1) = some (.int .i64 (lpD L t)) := ld_of e6 rfl
  by_cases h : OK7 L t
  case neg =>
    rw [decide_eq_false h, if_neg h, if_neg h]
    simp -implicitDefEqProofs (disch := omega) only [List.any_cons, List.any_nil, Nat.reduceEqDiff, List.map_cons, List.map_nil, Option.map_some, Option.map_none, List.nil_append, ↓reduceIte, vcu, ↓vcd, Bool.not_false]
    rw [r_build]
    refine ⟨(_, #[.int .i64 0, .int .i64 0]), ⟨ze24, by simp -implicitDefEqProofs (disch := omega) only [List.any_cons, List.any_nil, Nat.reduceEqDiff, List.map_cons, List.map_nil, Option.map_some, Option.map_none, List.nil_append, ↓reduceIte, vcu, ↓vcd]; kernel_rfl⟩, ?_⟩
    simp -implicitDefEqProofs (disch := omega) only [List.any_cons, List.any_nil, Nat.reduceEqDiff, List.map_cons, List.map_nil, Option.map_some, Option.map_none, List.nil_append, ↓reduceIte, vcu, ↓vcd]
    refine r_sets (g := c4) (i := 0) (C := [.int .i64 0, .int .i64 0]) (by simp -implicitDefEqProofs (disch := omega) only [List.any_cons, List.any_nil, Nat.reduceEqDiff, List.map_cons, List.map_nil, Option.map_some, Option.map_none, List.nil_append, ↓reduceIte, vcu, ↓vcd]) (by simp -implicitDefEqProofs (disch := omega) only [List.any_cons, List.any_nil, Nat.reduceEqDiff, List.map_cons, List.map_nil, Option.map_some, Option.map_none, List.nil_append, ↓reduceIte, vcu, ↓vcd, co24]; rfl) (by simp -implicitDefEqProofs (disch := omega) only [List.any_cons, List.any_nil, Nat.reduceEqDiff, List.map_cons, List.map_nil, Option.map_some, Option.map_none, List.nil_append, ↓reduceIte, vcu, ↓vcd]; rfl) (by simp -implicitDefEqProofs (disch := omega) only [List.any_cons, List.any_nil, Nat.reduceEqDiff, List.map_cons, List.map_nil, Option.map_some, Option.map_none, List.nil_append, ↓reduceIte, vcu, ↓vcd]; exact Nat.zero_lt_succ _) e4 (by simp -implicitDefEqProofs (disch := omega) only [List.any_cons, List.any_nil, Nat.reduceEqDiff, List.map_cons, List.map_nil, Option.map_some, Option.map_none, List.nil_append, ↓reduceIte, vcu, ↓vcd]; exact Nat.le_refl _) fun τ3 k3 e3 => ?_
    replace e3 : τ3 c4 = some ⟨[.int .i64 0, .int .i64 0], false⟩ := e3
    have l3 : lds τ3 c4 0 2 = some [.int .i64 0, .int .i64 0] := lds_two (ld_of e3 rfl) (ld_of e3 rfl)
    simp -implicitDefEqProofs (disch := omega) only [List.any_cons, List.any_nil, Nat.reduceEqDiff, List.map_cons, List.map_nil, Option.map_some, Option.map_none, List.nil_append, ↓reduceIte, vcu, ↓vcd]
    refine fin_ct7 Try.results34 σ (k3.sub s12 n4) (v := .agg #[.int .i64 0, .int .i64 0]) (by simp -implicitDefEqProofs (disch := omega) only [List.any_cons, List.any_nil, Nat.reduceEqDiff, List.map_cons, List.map_nil, Option.map_some, Option.map_none, List.nil_append, ↓reduceIte, vcu, ↓vcd, l3, co24]) ⟨?_, rfl⟩
    simp -implicitDefEqProofs (disch := omega) only [List.any_cons, List.any_nil, Nat.reduceEqDiff, List.map_cons, List.map_nil, Option.map_some, Option.map_none, List.nil_append, ↓reduceIte, vcu, ↓vcd]
  have eN : lpN L t = ((lp L.toNat t.toNat).1 : Int) := if_pos h
  have eD : lpD L t = ((lp L.toNat t.toNat).2 : Int) := if_pos h
  rw [decide_eq_true h, if_pos h, if_pos h]
  rw [eN] at l0
  rw [eD] at l1
  clear eN eD e6
  obtain ⟨⟨a1, a2⟩, a3, a4⟩ := h
  obtain ⟨L, rfl⟩ : ∃ n : Nat, L = n := ⟨L.toNat, by omega⟩
  obtain ⟨t, rfl⟩ : ∃ n : Nat, t = n := ⟨t.toNat, by omega⟩
  simp only [Int.toNat_natCast] at l0 l1 ⊢
  have hP := part (L := L) (t := t) (by omega) (by omega)
  have hone := hP.one
  have hok := hP.ok
  have htk : taken L t = low (L * ((lp L t).2 - (lp L t).1)) (lp L t).2 := rfl
  clear hP
  generalize (lp L t).1 = x at *
  generalize (lp L t).2 = y at *
  have q1 : (y : Int) - (x : Int) = ((y - x : Nat) : Int) := by omega
  have hb := Nat.mul_le_mul (show L ≤ 6 by omega) (show y - x ≤ 1000000000 by omega)
  have q2 : (L : Int) * ((y - x : Nat) : Int) = ((L * (y - x) : Nat) : Int) := by rw [Int.natCast_mul]
  generalize L * (y - x) = A at *
  simp -implicitDefEqProofs (disch := omega) only [List.any_cons, List.any_nil, Nat.reduceEqDiff, List.map_cons, List.map_nil, Option.map_some, Option.map_none, List.nil_append, ↓reduceIte, vcu, ↓vcd, Bool.not_true, l0, l1, q1, q2]
  refine (specLow_at τ2 A y (by omega) (by omega) (by omega)).mono ?_
  rintro r _ ⟨rfl, rfl⟩
  rename_i τ2
  rw [← htk]
  simp -implicitDefEqProofs (disch := omega) only [List.any_cons, List.any_nil, Nat.reduceEqDiff, List.map_cons, List.map_nil, Option.map_some, Option.map_none, List.nil_append, ↓reduceIte, vcu, ↓vcd, opK_some]
  refine r_sets (g := c4) (i := 0) (C := [.int .i64 0, .int .i64 0]) (by simp -implicitDefEqProofs (disch := omega) only [List.any_cons, List.any_nil, Nat.reduceEqDiff, List.map_cons, List.map_nil, Option.map_some, Option.map_none, List.nil_append, ↓reduceIte, vcu, ↓vcd]) (by simp -implicitDefEqProofs (disch := omega) only [List.any_cons, List.any_nil, Nat.reduceEqDiff, List.map_cons, List.map_nil, Option.map_some, Option.map_none, List.nil_append, ↓reduceIte, vcu, ↓vcd, co24]; rfl) (by simp -implicitDefEqProofs (disch := omega) only [List.any_cons, List.any_nil, Nat.reduceEqDiff, List.map_cons, List.map_nil, Option.map_some, Option.map_none, List.nil_append, ↓reduceIte, vcu, ↓vcd]; rfl) (by simp -implicitDefEqProofs (disch := omega) only [List.any_cons, List.any_nil, Nat.reduceEqDiff, List.map_cons, List.map_nil, Option.map_some, Option.map_none, List.nil_append, ↓reduceIte, vcu, ↓vcd]; exact Nat.zero_lt_succ _) e4 (by simp -implicitDefEqProofs (disch := omega) only [List.any_cons, List.any_nil, Nat.reduceEqDiff, List.map_cons, List.map_nil, Option.map_some, Option.map_none, List.nil_append, ↓reduceIte, vcu, ↓vcd]; exact Nat.le_refl _) fun τ3 k3 e3 => ?_
  replace e3 : τ3 c4 = some ⟨[.int .i64 ((taken L t).1 : Int), .int .i64 ((taken L t).2 : Int)], false⟩ := e3
  have l3 : lds τ3 c4 0 2 = some [.int .i64 ((taken L t).1 : Int), .int .i64 ((taken L t).2 : Int)] := lds_two (ld_of e3 rfl) (ld_of e3 rfl)
  simp -implicitDefEqProofs (disch := omega) only [List.any_cons, List.any_nil, Nat.reduceEqDiff, List.map_cons, List.map_nil, Option.map_some, Option.map_none, List.nil_append, ↓reduceIte, vcu, ↓vcd]
  refine fin_ct7 Try.results34 σ (k3.sub s12 n4) (v := .agg #[.int .i64 ((taken L t).1 : Int), .int .i64 ((taken L t).2 : Int)]) (by simp -implicitDefEqProofs (disch := omega) only [List.any_cons, List.any_nil, Nat.reduceEqDiff, List.map_cons, List.map_nil, Option.map_some, Option.map_none, List.nil_append, ↓reduceIte, vcu, ↓vcd, l3, co24]) ⟨?_, rfl⟩
  simp -implicitDefEqProofs (disch := omega) only [List.any_cons, List.any_nil, Nat.reduceEqDiff, List.map_cons, List.map_nil, Option.map_some, Option.map_none, List.nil_append, ↓reduceIte, vcu, ↓vcd]
end Go.Proofs.Ytkepicmefpcgaaa

/- Even traffic is made of permutations: what is left, match by match. -/
import Derived.Test.YtpcbgdgfdfpapaaHa
set_option linter.unusedSimpArgs false
set_option linter.unusedVariables false
namespace Go.Proofs.Ytpcbgdgfdfpapaa
open Go Go.Abs Go.RowKit

theorem pre_valid {rows : List (List Int)} {ps : List Int} (h : Pre rows ps) (hl : ps.length = rows.length) (h6 : rows.length ≤ 6) : Valid ps := by
  refine ⟨⟨fun x hx => ?_, nodup_take.2 fun k hk => (h.ok k hk).2.2.2⟩, by omega⟩
  obtain ⟨i, hi, rfl⟩ := List.getElem_of_mem hx
  have := h.ok i hi
  rw [getD_lt hi] at this
  exact ⟨this.1, by rw [hl]; exact this.2.1⟩
/-- one unit less at a place -/
def less1 (T : List (List Int)) (i o : Nat) : List (List Int) := T.set i ((T.getD i []).set o (en T i o - 1))
def subP (T : List (List Int)) (p : List Int) : Nat → List (List Int)
  | 0 => T
  | j + 1 => less1 (subP T p j) j (p.getD j 0).toNat
theorem less1_sq {n : Nat} {T : List (List Int)} (h : Sq n T) {i o : Nat} (hi : i < n) : Sq n (less1 T i o) := by
  refine ⟨by simp [less1, h.1], fun j hj => ?_⟩
  unfold less1
  rw [getD_setL (by rw [h.1]; exact hi)]
  split
  · rw [List.length_set]; exact h.2 i hi
  · exact h.2 j hj
theorem en_less1 {n : Nat} {T : List (List Int)} (h : Sq n T) {i o : Nat} (hi : i < n) (ho : o < n) (a b : Nat) : en (less1 T i o) a b = if a = i ∧ b = o then en T i o - 1 else en T a b := by
  unfold en less1
  rw [getD_setL (by rw [h.1]; exact hi)]
  by_cases e : a = i
  · subst e
    rw [if_pos rfl, getD_set _ (by rw [h.2 a hi]; exact ho)]
    by_cases e2 : b = o
    · subst e2; rw [if_pos rfl, if_pos ⟨rfl, rfl⟩]; rfl
    · rw [if_neg e2, if_neg (fun hh => e2 hh.2)]
  · rw [if_neg e, if_neg (fun hh => e hh.1)]
theorem subP_sq {n : Nat} {T : List (List Int)} (h : Sq n T) (p : List Int) : ∀ j, j ≤ n → Sq n (subP T p j)
  | 0, _ => h
  | j + 1, hj => less1_sq (subP_sq h p j (by omega)) (by omega)
theorem en_subP' {n : Nat} {T : List (List Int)} (h : Sq n T) {p : List Int} (hp : InN n p) : ∀ j, j ≤ n → ∀ a b, en (subP T p j) a b = en T a b - if a < j ∧ b = (p.getD a 0).toNat then 1 else 0
  | 0, _, a, b => by rw [subP, if_neg (by omega)]; omega
  | j + 1, hj, a, b => by
    have ih := en_subP' h hp j (by omega)
    rw [subP, en_less1 (subP_sq h p j (by omega)) (by omega) (hp.2 j (by omega)), ih a b]
    by_cases e : a = j
    · by_cases e2 : b = (p.getD a 0).toNat
      · rw [if_pos ⟨e, by rw [e2, e]⟩, if_pos ⟨by omega, e2⟩, ih j, if_neg (by omega), ← e, ← e2]; omega
      · rw [if_neg (fun hh => e2 (by rw [hh.2, e])), if_neg (fun hh => e2 hh.2), if_neg (fun hh => e2 hh.2)]
    · rw [if_neg (fun hh => e hh.1)]
      congr 1
      by_cases h1 : a < j
      · by_cases e2 : b = (p.getD a 0).toNat
        · rw [if_pos ⟨h1, e2⟩, if_pos ⟨by omega, e2⟩]
        · rw [if_neg (fun hh => e2 hh.2), if_neg (fun hh => e2 hh.2)]
      · rw [if_neg (fun hh => h1 hh.1), if_neg (by omega)]
theorem en_subP {n : Nat} {T : List (List Int)} (h : Sq n T) {p : List Int} (hp : InN n p) (a b j : Nat) (hj : j ≤ n) : en (subP T p j) a b = en T a b - if a < j ∧ b = (p.getD a 0).toNat then 1 else 0 := en_subP' h hp j hj a b

theorem sumTo_sub (f g : Nat → Int) : ∀ n, sumTo (fun k => f k - g k) n = sumTo f n - sumTo g n
  | 0 => rfl
  | n + 1 => by simp only [sumTo, sumTo_sub f g n]; omega
theorem pc_sumTo (xs : List Int) (b : Nat) : ∀ m, sumTo (fun a => if b = (xs.getD a 0).toNat then 1 else 0) m = (pc xs b m : Nat)
  | 0 => rfl
  | m + 1 => by
    rw [sumTo, pc_sumTo xs b m, pc]
    by_cases e : b = (xs.getD m 0).toNat
    · rw [if_pos e, if_pos e]; omega
    · rw [if_neg e, if_neg e]; omega
/-- with a match taken away it is even, with one less -/
theorem even_step {T : List (List Int)} {p : List Int} (hE : EvenT T) (hp : Pre T p) (hl : p.length = T.length) (h0 : 0 < T.length) :
    (subP T p T.length).length = T.length ∧ EvenT (subP T p T.length) ∧ most (subP T p T.length) T.length = most T T.length - 1 := by
  have hT := hE.1
  obtain ⟨n, hn⟩ : ∃ n, T.length = n := ⟨_, rfl⟩
  have hsq : Sq n T := ⟨hn, fun i hi => by rw [(hT.2 i (by omega)).1, hn]⟩
  have hV := pre_valid hp hl hT.1
  obtain ⟨hin, -⟩ := valid_in hV (by rw [hl, hn])
  have hs2 := subP_sq hsq p n (Nat.le_refl _)
  have hen := fun a b => en_subP hsq hin a b n (Nat.le_refl _)
  rw [hn] at hl ⊢
  have hTV : TV (subP T p n) := by
    refine ⟨by rw [hs2.1, ← hn]; exact hT.1, fun i hi => ⟨by rw [hs2.1]; exact hs2.2 i (by rw [← hs2.1]; exact hi), fun j hj => ?_⟩⟩
    rw [hs2.1] at hi
    rw [hs2.2 i hi] at hj
    have h1 := hen i j
    have h2 := hT.at (i := i) (j := j) (by omega) (by omega)
    have h3 := (hp.ok i (by omega)).2.2.1
    unfold en at h1
    unfold Edge en at h3
    rw [h1]
    split
    · rename_i hh
      rw [← hh.2] at h3
      omega
    · omega
  obtain ⟨d, hd⟩ : ∃ d, most T n = d := ⟨_, rfl⟩
  have hr : ∀ i, i < n → psum ((subP T p n).getD i []) n = d - 1 := fun i hi => by
    have h1 := (hE.2 i (by omega)).1
    rw [hn, hd, psum_sumTo] at h1
    rw [psum_sumTo]
    have : sumTo (fun o => ((subP T p n).getD i []).getD o 0) n = sumTo (fun o => (T.getD i []).getD o 0 - if o = (p.getD i 0).toNat then 1 else 0) n := sumTo_congr n fun o ho => by
      have := hen i o
      unfold en at this
      rw [this]
      congr 1
      by_cases e : o = (p.getD i 0).toNat
      · rw [if_pos ⟨hi, e⟩, if_pos e]
      · rw [if_neg (fun hh => e hh.2), if_neg e]
    rw [this, sumTo_sub, h1, sumTo_one (hin.2 i hi)]
  have hc : ∀ b, b < n → csum (subP T p n) b n = d - 1 := fun b hb => by
    have h1 := (hE.2 b (by omega)).2
    rw [hn, hd, csum_sumTo] at h1
    rw [csum_sumTo]
    have : sumTo (fun a => en (subP T p n) a b) n = sumTo (fun a => en T a b - if b = (p.getD a 0).toNat then 1 else 0) n := sumTo_congr n fun a ha => by
      rw [hen a b]
      congr 1
      by_cases e : b = (p.getD a 0).toNat
      · rw [if_pos ⟨ha, e⟩, if_pos e]
      · rw [if_neg (fun hh => e hh.2), if_neg e]
    have hpc := pc_one hV (b := b) (by omega)
    rw [hl] at hpc
    rw [this, sumTo_sub, h1, pc_sumTo, hpc]; rfl
  have hm : most (subP T p n) n = d - 1 := by
    have hh := le_most (rows := subP T p n) (i := 0) (k := n) (by omega)
    rw [hs2.1, hr 0 (by omega)] at hh
    have hd1 : 0 ≤ d - 1 := by
      rw [← hr 0 (by omega)]
      have hr0 := hTV.2 0 (by rw [hs2.1]; omega)
      exact (psum_le hr0.2 n (by rw [hs2.2 0 (by omega)]; exact Nat.le_refl _)).1
    have h2 := most_le' (rows := subP T p n) (M := d - 1) hd1 n (fun i hi => by rw [hs2.1, hr i hi, hc i hi]; exact ⟨Int.le_refl _, Int.le_refl _⟩)
    omega
  refine ⟨hs2.1, ⟨hTV, fun i hi => ?_⟩, by rw [hm, hd]⟩
  rw [hs2.1] at hi ⊢
  rw [hr i hi, hc i hi, hm]
  exact ⟨rfl, rfl⟩

open Classical in
/-- the match of a table -/
noncomputable def mp (T : List (List Int)) : List Int := if h : ∃ ps, MatchF T ps true then Classical.choose h else []
theorem mp_at {T : List (List Int)} {ps : List Int} (h : MatchF T ps true) : mp T = ps := by
  have hex : ∃ ps, MatchF T ps true := ⟨ps, h⟩
  unfold mp
  rw [dif_pos hex]
  exact ((Classical.choose_spec hex).uniq h).1
noncomputable def leftK (rows : List (List Int)) : Nat → List (List Int)
  | 0 => rows
  | k + 1 => subP (leftK rows k) (mp (leftK rows k)) rows.length
noncomputable def listK (rows : List (List Int)) (k : Nat) : List (List Int) := (List.range k).map fun i => mp (leftK rows i)
theorem listK_length (rows : List (List Int)) (k : Nat) : (listK rows k).length = k := by simp [listK]
theorem listK_succ (rows : List (List Int)) (k : Nat) : listK rows (k + 1) = listK rows k ++ [mp (leftK rows k)] := by simp [listK, List.range_succ]
theorem listK_getD {rows : List (List Int)} {k i : Nat} (h : i < k) : (listK rows k).getD i [] = mp (leftK rows i) := by simp [listK, List.getD, h]
/-- even traffic that is not nothing has its match -/
theorem mp_ok {T : List (List Int)} (hE : EvenT T) (h : 0 < most T T.length) : 0 < T.length ∧ Pre T (mp T) ∧ (mp T).length = T.length ∧ MatchF T (mp T) true := by
  have h0 : 0 < T.length := by
    rcases Nat.eq_zero_or_pos T.length with e | e
    · rw [e] at h; simp [most] at h
    · exact e
  have hcan := even_can hE h
  have hex : ∃ ps, MatchF T ps true := by
    have hT := hE.1
    obtain ⟨r, hr, hc, hno⟩ : ∃ r, r < fac T.length ∧ Cov T (ofV T.length r) ∧ ∀ r', r' < r → ¬ Cov T (ofV T.length r') := by
      apply Classical.byContradiction
      intro hn
      have : ∀ r', r' < fac T.length → ¬ Cov T (ofV T.length r') := by
        intro r'
        induction r' using Nat.strongRecOn with
        | ind r' ih => exact fun hr hC => hn ⟨r', hr, hC, fun r'' h'' => ih r'' h'' (by omega)⟩
      exact none_can hT.1 this hcan
    have ho : OfOk T.length r := ⟨by omega, by have := hT.1; omega, by omega, by simpa using hr⟩
    exact ⟨_, .inr ⟨hT, .inr ⟨rfl, (of_ok ho).2.2.1, first_pre hT.1 ho hc hno⟩⟩⟩
  obtain ⟨ps, hps⟩ := hex
  rw [mp_at hps]
  rcases hps with ⟨-, -, h⟩ | ⟨hT, ⟨h, -, -⟩ | ⟨-, a, b⟩⟩
  · cases h
  · cases h
  · exact ⟨h0, b, a, .inr ⟨hT, .inr ⟨rfl, a, b⟩⟩⟩
theorem leftK_ok {rows : List (List Int)} (hE : EvenT rows) : ∀ (k : Nat), (k : Int) ≤ most rows rows.length → (leftK rows k).length = rows.length ∧ EvenT (leftK rows k) ∧ most (leftK rows k) rows.length = most rows rows.length - k
  | 0, _ => ⟨rfl, hE, by simp [leftK]⟩
  | k + 1, hk => by
    obtain ⟨h1, h2, h3⟩ := leftK_ok hE k (by omega)
    obtain ⟨a, b, c, -⟩ := mp_ok h2 (by rw [h1, h3]; omega)
    obtain ⟨s1, s2, s3⟩ := even_step h2 b c a
    rw [h1] at s1 s2 s3
    exact ⟨s1, s2, by show most (subP _ _ _) _ = _; rw [s3, h3]; omega⟩
end Go.Proofs.Ytpcbgdgfdfpapaa

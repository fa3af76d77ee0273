/- Matchings: one more along an alternating way, or none at all. -/
import Derived.Test.YtbfldpcikcdlpaaRf
set_option linter.unusedSimpArgs false
set_option linter.unusedVariables false
namespace Go.Proofs.Ytbfldpcikcdlpaa
open Go Go.Abs Go.RowKit

def Edge (rows : List (List Int)) (i o : Nat) : Prop := 0 < en rows i o
instance (rows : List (List Int)) (i o : Nat) : Decidable (Edge rows i o) := by unfold Edge; infer_instance
/-- each from the given ones on has an output of its own -/
structure Ext (rows : List (List Int)) (given : List Int) (p : Nat → Nat) : Prop where
  lt : ∀ i, given.length ≤ i → i < rows.length → p i < rows.length
  edge : ∀ i, given.length ≤ i → i < rows.length → Edge rows i (p i)
  new : ∀ i, given.length ≤ i → i < rows.length → ((p i : Nat) : Int) ∉ given
  inj : ∀ i j, given.length ≤ i → i < rows.length → given.length ≤ j → j < rows.length → p i = p j → i = j
def CanM (rows : List (List Int)) (given : List Int) : Prop := ∃ p, Ext rows given p

theorem nodup_le : ∀ {xs ys : List Nat}, xs.Nodup → (∀ x ∈ xs, x ∈ ys) → xs.length ≤ ys.length
  | [], _, _, _ => Nat.zero_le _
  | x :: xs, ys, hn, hs => by
    have hx := hs x (by simp)
    have hn' := List.nodup_cons.1 hn
    have ih := nodup_le (xs := xs) (ys := ys.erase x) hn'.2 fun y hy => by
      have hne : y ≠ x := by rintro rfl; exact hn'.1 hy
      exact (List.mem_erase_of_ne hne).2 (hs y (by simp [hy]))
    rw [List.length_erase_of_mem hx] at ih
    have : 0 < ys.length := List.length_pos_of_mem hx
    simp only [List.length_cons]; omega

/-- the matching: the input of each output, or less than 0 -/
structure Mat (rows : List (List Int)) (M : List Int) : Prop where
  len : M.length = rows.length
  ok : ∀ o, o < rows.length → 0 ≤ M.getD o 0 → M.getD o 0 < rows.length ∧ Edge rows (M.getD o 0).toNat o
/-- a way was found -/
structure Won (rows : List (List Int)) (M : List Int) (T : List Bool) (i : Nat) (M' : List Int) (T' : List Bool) : Prop where
  mat : Mat rows M'
  len : T'.length = rows.length
  sub : ∀ o, o < rows.length → T.getD o false = true → T'.getD o false = true
  keep : ∀ o, o < rows.length → T.getD o false = true → M'.getD o 0 = M.getD o 0
  cnt : ∀ j : Nat, M'.count (j : Int) = M.count (j : Int) + if j = i then 1 else 0
/-- none was found, up to an output k of those of i -/
structure Lost (rows : List (List Int)) (M : List Int) (T : List Bool) (i k : Nat) (T' : List Bool) : Prop where
  len : T'.length = rows.length
  sub : ∀ o, o < rows.length → T.getD o false = true → T'.getD o false = true
  nb : ∀ o, o < k → o < rows.length → Edge rows i o → T'.getD o false = true
  cl : ∀ o, o < rows.length → T'.getD o false = true → T.getD o false ≠ true → 0 ≤ M.getD o 0 ∧ ∀ o', o' < rows.length → Edge rows (M.getD o 0).toNat o' → T'.getD o' false = true

theorem getD_setB (T : List Bool) {i : Nat} (hi : i < T.length) (v : Bool) (a : Nat) : (T.set i v).getD a false = if a = i then v else T.getD a false := by
  simp only [List.getD, List.getElem?_set]
  by_cases e : i = a
  · subst e; simp [hi]
  · rw [if_neg e, if_neg (fun h => e h.symm)]
theorem count_set' (M : List Int) {o : Nat} (ho : o < M.length) (v j : Int) : (M.set o v).count j + (if M.getD o 0 = j then 1 else 0) = M.count j + if v = j then 1 else 0 := by
  induction M generalizing o with
  | nil => simp at ho
  | cons x M ih =>
    cases o with
    | zero => simp [List.count_cons]; omega
    | succ o =>
      have := ih (o := o) (by simpa using ho)
      simp only [List.set_cons_succ, List.count_cons, List.getD_cons_succ]
      omega
theorem count_at {M : List Int} {o : Nat} (ho : o < M.length) : 1 ≤ M.count (M.getD o 0) := by
  have : M.getD o 0 ∈ M := by simp [List.getD, ho]
  exact List.count_pos_iff.2 this
theorem count_two {M : List Int} {o o' : Nat} (ho : o < o') (ho' : o' < M.length) (he : M.getD o 0 = M.getD o' 0) : 2 ≤ M.count (M.getD o 0) := by
  have h1 := count_set' M (o := o) (by omega) (M.getD o 0 + 1) (M.getD o 0)
  rw [if_pos rfl, if_neg (by omega)] at h1
  have h2 := count_at (M := M.set o (M.getD o 0 + 1)) (o := o') (by simpa using ho')
  rw [getD_set _ (by omega), if_neg (by omega), ← he] at h2
  omega

/-- an output is taken for i, what it was matched with having found another one -/
theorem Won.take {rows : List (List Int)} {M M2 : List Int} {T T1 T2 T3 : List Bool} {i k : Nat} (hi : i < rows.length) (hk : k < rows.length) (he : Edge rows i k)
    (hL : Lost rows M T i k T1) (h1 : T1.getD k false ≠ true) (hT2 : T2 = T1.set k true)
    (h : (M.getD k 0 < 0 ∧ M2 = M ∧ T3 = T2 ∧ Mat rows M) ∨ (0 ≤ M.getD k 0 ∧ Won rows M T2 (M.getD k 0).toNat M2 T3)) : Won rows M T i (M2.set k i) T3 := by
  have hT2g : ∀ o, o < rows.length → T2.getD o false = if o = k then true else T1.getD o false := fun o ho => by rw [hT2, getD_setB _ (by rw [hL.len]; exact hk)]
  have hsub : ∀ o, o < rows.length → T.getD o false = true → T2.getD o false = true := fun o ho h0 => by
    rw [hT2g o ho]; split
    · rfl
    · exact hL.sub o ho h0
  have hkT : T.getD k false ≠ true := fun h0 => h1 (hL.sub k hk h0)
  have hm : Mat rows M2 := by
    rcases h with ⟨_, rfl, _, hm⟩ | ⟨_, hw⟩
    · exact hm
    · exact hw.mat
  have hM2k : M2.getD k 0 = M.getD k 0 := by
    rcases h with ⟨_, rfl, _, hm⟩ | ⟨_, hw⟩
    · rfl
    · exact hw.keep k hk (by rw [hT2g k hk, if_pos rfl])
  have hlen : M2.length = rows.length := hm.len
  refine ⟨⟨by simp [hlen], fun o ho h0 => ?_⟩, ?_, fun o ho h0 => ?_, fun o ho h0 => ?_, fun j => ?_⟩
  · rw [getD_set _ (by omega)] at h0 ⊢
    by_cases e : o = k
    · subst e; rw [if_pos rfl] at h0 ⊢; exact ⟨by omega, by simpa using he⟩
    · rw [if_neg e] at h0 ⊢; exact hm.ok o ho h0
  · rcases h with ⟨_, _, rfl, _⟩ | ⟨_, hw⟩
    · rw [hT2, List.length_set]; exact hL.len
    · exact hw.len
  · rcases h with ⟨_, _, rfl, _⟩ | ⟨_, hw⟩
    · exact hsub o ho h0
    · exact hw.sub o ho (hsub o ho h0)
  · have hne : o ≠ k := by rintro rfl; exact hkT h0
    rw [getD_set _ (by omega), if_neg hne]
    rcases h with ⟨_, rfl, _, _⟩ | ⟨_, hw⟩
    · rfl
    · exact hw.keep o ho (hsub o ho h0)
  · have hc := count_set' M2 (o := k) (by omega) i j
    rw [hM2k] at hc
    rcases h with ⟨hneg, rfl, _, _⟩ | ⟨hpos, hw⟩
    · rw [if_neg (by omega)] at hc
      by_cases e : j = i
      · subst e; rw [if_pos rfl] at hc ⊢; omega
      · rw [if_neg (by omega)] at hc; rw [if_neg e]; omega
    · have hwc := hw.cnt j
      by_cases e1 : j = (M.getD k 0).toNat
      · rw [if_pos (by omega)] at hc
        rw [if_pos e1] at hwc
        by_cases e : j = i
        · subst e; rw [if_pos rfl] at hc ⊢; omega
        · rw [if_neg (by omega)] at hc; rw [if_neg e]; omega
      · rw [if_neg (by omega)] at hc
        rw [if_neg e1] at hwc
        by_cases e : j = i
        · subst e; rw [if_pos rfl] at hc ⊢; omega
        · rw [if_neg (by omega)] at hc; rw [if_neg e]; omega
theorem Lost.start {rows : List (List Int)} {M : List Int} {T : List Bool} (i : Nat) (hT : T.length = rows.length) : Lost rows M T i 0 T :=
  ⟨hT, fun _ _ h => h, fun o ho => by omega, fun o _ h1 h2 => absurd h1 h2⟩
/-- an output that is none of i, or was tried -/
theorem Lost.skip {rows : List (List Int)} {M : List Int} {T T1 : List Bool} {i k : Nat} (h : Lost rows M T i k T1) (hs : Edge rows i k → T1.getD k false = true) : Lost rows M T i (k + 1) T1 :=
  ⟨h.len, h.sub, fun o h1 h2 he => by
    by_cases e : o = k
    · subst e; exact hs he
    · exact h.nb o (by omega) h2 he, h.cl⟩
/-- an output whose input finds no other one -/
theorem Lost.fail {rows : List (List Int)} {M : List Int} {T T1 T2 T3 : List Bool} {i k : Nat} (hk : k < rows.length) (h : Lost rows M T i k T1) (hT2 : T2 = T1.set k true) (hp : 0 ≤ M.getD k 0)
    (hl : Lost rows M T2 (M.getD k 0).toNat rows.length T3) : Lost rows M T i (k + 1) T3 := by
  have hT2g : ∀ o, o < rows.length → T2.getD o false = if o = k then true else T1.getD o false := fun o ho => by rw [hT2, getD_setB _ (by rw [h.len]; exact hk)]
  have up : ∀ o, o < rows.length → T1.getD o false = true → T3.getD o false = true := fun o ho h0 => hl.sub o ho (by
    rw [hT2g o ho]
    split
    · rfl
    · exact h0)
  refine ⟨hl.len, fun o ho h0 => up o ho (h.sub o ho h0), fun o h1 h2 he => ?_, fun o ho h1 h2 => ?_⟩
  · by_cases e : o = k
    · subst e; exact hl.sub o h2 (by rw [hT2g o h2, if_pos rfl])
    · exact up o h2 (h.nb o (by omega) h2 he)
  · by_cases e : o = k
    · subst e
      exact ⟨hp, fun o' ho' he => hl.nb o' ho' ho' he⟩
    · by_cases h3 : T1.getD o false = true
      · obtain ⟨a, b⟩ := h.cl o ho h3 h2
        exact ⟨a, fun o' ho' he => up o' ho' (b o' ho' he)⟩
      · exact hl.cl o ho h1 (by rw [hT2g o ho, if_neg e]; exact h3)

/-- the matching when the inputs behind the given ones, up to i, have been connected -/
structure Top (rows : List (List Int)) (given : List Int) (M : List Int) (i : Nat) : Prop where
  mat : Mat rows M
  cnt : ∀ j : Nat, M.count (j : Int) = if given.length ≤ j ∧ j < i then 1 else 0
  out : ∀ o, o < rows.length → (o : Int) ∈ given → M.getD o 0 = -1
def Marks (n : Nat) (given : List Int) (T : List Bool) : Prop := T.length = n ∧ ∀ o, o < n → (T.getD o false = true ↔ (o : Int) ∈ given)
theorem Top.start (rows : List (List Int)) (given : List Int) : Top rows given (List.replicate rows.length (-1)) given.length := by
  have hg : ∀ o, o < rows.length → (List.replicate rows.length (-1 : Int)).getD o 0 = -1 := fun o ho => by simp [List.getD, ho]
  refine ⟨⟨by simp, fun o ho h => by rw [hg o ho] at h; omega⟩, fun j => ?_, fun o ho _ => hg o ho⟩
  rw [if_neg (by omega)]
  apply List.count_eq_zero.2
  intro hm
  have := List.eq_of_mem_replicate hm
  omega
theorem Top.won {rows : List (List Int)} {given M M' : List Int} {T T' : List Bool} {i : Nat} (h : Top rows given M i) (hT : Marks rows.length given T) (hi : given.length ≤ i) (hw : Won rows M T i M' T') : Top rows given M' (i + 1) :=
  ⟨hw.mat, fun j => by
    rw [hw.cnt j, h.cnt j]
    by_cases e : j = i
    · subst e; rw [if_neg (by omega), if_pos rfl, if_pos (by omega)]
    · rw [if_neg e]
      by_cases h1 : given.length ≤ j ∧ j < i
      · rw [if_pos h1, if_pos (by omega)]
      · rw [if_neg h1, if_neg (by omega)], fun o ho hg => by rw [hw.keep o ho ((hT.2 o ho).2 hg)]; exact h.out o ho hg⟩
theorem Top.none {rows : List (List Int)} {given M : List Int} {T T' : List Bool} {i : Nat} (h : Top rows given M i) (hT : Marks rows.length given T) (hi : given.length ≤ i) (hin : i < rows.length) (hl : Lost rows M T i rows.length T') : ¬ CanM rows given := by
  rintro ⟨p, hp⟩
  have hmem : ∀ o, o ∈ (List.range rows.length).filter (fun o => T'.getD o false && !T.getD o false) ↔ o < rows.length ∧ T'.getD o false = true ∧ T.getD o false = false := fun o => by simp
  have hnew : ∀ j, given.length ≤ j → j < rows.length → T'.getD (p j) false = true → p j ∈ (List.range rows.length).filter (fun o => T'.getD o false && !T.getD o false) := fun j h1 h2 h3 => by
    rw [hmem]
    refine ⟨hp.lt j h1 h2, h3, ?_⟩
    cases hh : T.getD (p j) false with
    | false => rfl
    | true => exact absurd ((hT.2 _ (hp.lt j h1 h2)).1 hh) (hp.new j h1 h2)
  have hM : ∀ o, o < rows.length → 0 ≤ M.getD o 0 → given.length ≤ (M.getD o 0).toNat ∧ (M.getD o 0).toNat < i ∧ M.count (M.getD o 0) = 1 := fun o ho h0 => by
    have h1 := count_at (M := M) (o := o) (by rw [h.mat.len]; exact ho)
    have h2 := h.cnt (M.getD o 0).toNat
    have e : (((M.getD o 0).toNat : Nat) : Int) = M.getD o 0 := by omega
    rw [e] at h2
    split at h2
    · rename_i hh; exact ⟨hh.1, hh.2, h2⟩
    · omega
  have hle := nodup_le (xs := p i :: ((List.range rows.length).filter (fun o => T'.getD o false && !T.getD o false)).map fun o => p (M.getD o 0).toNat) (ys := (List.range rows.length).filter (fun o => T'.getD o false && !T.getD o false)) ?_ ?_
  · simp at hle; omega
  · refine List.nodup_cons.2 ⟨?_, ?_⟩
    · intro hm
      obtain ⟨o, ho, he⟩ := List.mem_map.1 hm
      obtain ⟨h1, h2, h3⟩ := (hmem o).1 ho
      have h4 := (hl.cl o h1 h2 (by rw [h3]; simp)).1
      obtain ⟨a, b, c⟩ := hM o h1 h4
      have := hp.inj _ _ a (by omega) hi hin he
      omega
    · rw [List.nodup_iff_pairwise_ne, List.pairwise_map]
      have hnd : ((List.range rows.length).filter (fun o => T'.getD o false && !T.getD o false)).Nodup := List.nodup_range.filter _
      rw [List.nodup_iff_pairwise_ne] at hnd
      refine hnd.imp_of_mem fun {o o'} ho ho' hne he => hne ?_
      obtain ⟨h1, h2, h3⟩ := (hmem o).1 ho
      obtain ⟨h1', h2', h3'⟩ := (hmem o').1 ho'
      have h4 := (hl.cl o h1 h2 (by rw [h3]; simp)).1
      have h4' := (hl.cl o' h1' h2' (by rw [h3']; simp)).1
      obtain ⟨a, b, c⟩ := hM o h1 h4
      obtain ⟨a', b', c'⟩ := hM o' h1' h4'
      have hj := hp.inj _ _ a (by omega) a' (by omega) he
      have hMM : M.getD o 0 = M.getD o' 0 := by omega
      rcases Nat.lt_trichotomy o o' with hlt | heq | hlt
      · have := count_two hlt (by rw [h.mat.len]; exact h1') hMM; omega
      · exact heq
      · have := count_two hlt (by rw [h.mat.len]; exact h1) hMM.symm; omega
  · intro x hx
    rcases List.mem_cons.1 hx with rfl | hx
    · exact hnew i hi hin (hl.nb _ (hp.lt i hi hin) (hp.lt i hi hin) (hp.edge i hi hin))
    · obtain ⟨o, ho, rfl⟩ := List.mem_map.1 hx
      obtain ⟨h1, h2, h3⟩ := (hmem o).1 ho
      obtain ⟨h4, h5⟩ := hl.cl o h1 h2 (by rw [h3]; simp)
      obtain ⟨a, b, c⟩ := hM o h1 h4
      exact hnew _ a (by omega) (h5 _ (hp.lt _ a (by omega)) (hp.edge _ a (by omega)))
theorem Top.all {rows : List (List Int)} {given M : List Int} (h : Top rows given M rows.length) : CanM rows given := by
  have hex : ∀ j : Nat, given.length ≤ j → j < rows.length → ∃ o, o < rows.length ∧ M.getD o 0 = j := fun j h1 h2 => by
    have hc := h.cnt j
    rw [if_pos ⟨h1, h2⟩] at hc
    have hm : (j : Int) ∈ M := List.count_pos_iff.1 (by omega)
    obtain ⟨o, ho, he⟩ := List.getElem_of_mem hm
    exact ⟨o, by rw [← h.mat.len]; exact ho, by simp [List.getD, ho, he]⟩
  have hch : ∀ j : Nat, ∃ o, given.length ≤ j → j < rows.length → o < rows.length ∧ M.getD o 0 = j := fun j => by
    by_cases h1 : given.length ≤ j ∧ j < rows.length
    · obtain ⟨o, ho⟩ := hex j h1.1 h1.2; exact ⟨o, fun _ _ => ho⟩
    · exact ⟨0, fun a b => absurd ⟨a, b⟩ h1⟩
  obtain ⟨p, hp⟩ := Classical.axiomOfChoice hch
  refine ⟨p, fun i a b => (hp i a b).1, fun i a b => ?_, fun i a b hm => ?_, fun i j a b c d e => ?_⟩
  · obtain ⟨h1, h2⟩ := hp i a b
    have := (h.mat.ok _ h1 (by rw [h2]; omega)).2
    rw [h2] at this; simpa using this
  · obtain ⟨h1, h2⟩ := hp i a b
    have := h.out _ h1 hm
    omega
  · have h1 := (hp i a b).2
    have h2 := (hp j c d).2
    rw [e] at h1
    omega
end Go.Proofs.Ytbfldpcikcdlpaa

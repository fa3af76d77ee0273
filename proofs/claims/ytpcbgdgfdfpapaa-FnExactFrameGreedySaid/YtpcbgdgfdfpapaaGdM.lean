/- Matchings: one more along an alternating way, or none at all. -/
import Derived.Test.YtpcbgdgfdfpapaaGcR
set_option linter.unusedSimpArgs false
set_option linter.unusedVariables false
namespace Go.Proofs.Ytpcbgdgfdfpapaa
open Go Go.Abs Go.RowKit

def Edge (rows : List (List Int)) (i o : Nat) : Prop := 0 < en rows i o
instance (rows : List (List Int)) (i o : Nat) : Decidable (Edge rows i o) := by unfold Edge; infer_instance
/-- each from the given ones on has an output of its own -/
structure Ext (rows : List (List Int)) (given : List Int) (p : Nat → Nat) : Prop where
  lt : ∀ i, given.length ≤ i → i < rows.length → p i < rows.length
  edge : ∀ i, given.length ≤ i → i < rows.length → Edge rows i (p i)
  new : ∀ i, given.length ≤ i → i < rows.length → ((p i : Nat) : Int) ∉ given
  inj : ∀ i j, given.length ≤ i → i < rows.length → given.length ≤ j → j < rows.length → p i = p j → i = j
def CanM (rows : List (List Int)) (given : List Int) : Prop := ∃ p, Ext rows given p

theorem nodup_le : ∀ {xs ys : List Nat}, xs.Nodup → (∀ x ∈ xs, x ∈ ys) → xs.length ≤ ys.length
  | [], _, _, _ => Nat.zero_le _
  | x :: xs, ys, hn, hs => by
    have hx := hs x (by simp)
    have hn' := List.nodup_cons.1 hn
    have ih := nodup_le (xs := xs) (ys := ys.erase x) hn'.2 fun y hy => by
      have hne : y ≠ x := by rintro rfl; exact hn'.1 hy
      exact (List.mem_erase_of_ne hne).2 (hs y (by simp [hy]))
    rw [List.length_erase_of_mem hx] at ih
    have : 0 < ys.length := List.length_pos_of_mem hx
    simp only [List.length_cons]; omega

/-- the matching: the input of each output, or less than 0 -/
structure Mat (rows : List (List Int)) (M : List Int) : Prop where
  len : M.length = rows.length
  ok : ∀ o, o < rows.length → 0 ≤ M.getD o 0 → M.getD o 0 < rows.length ∧ Edge rows (M.getD o 0).toNat o
/-- a way was found -/
structure Won (rows : List (List Int)) (M : List Int) (T : List Bool) (i : Nat) (M' : List Int) (T' : List Bool) : Prop where
  mat : Mat rows M'
  len : T'.length = rows.length
  sub : ∀ o, o < rows.length → T.getD o false = true → T'.getD o false = true
  keep : ∀ o, o < rows.length → T.getD o false = true → M'.getD o 0 = M.getD o 0
  cnt : ∀ j : Nat, M'.count (j : Int) = M.count (j : Int) + if j = i then 1 else 0
/-- none was found, up to an output k of those of i -/
structure Lost (rows : List (List Int)) (M : List Int) (T : List Bool) (i k : Nat) (T' : List Bool) : Prop where
  len : T'.length = rows.length
  sub : ∀ o, o < rows.length → T.getD o false = true → T'.getD o false = true
  nb : ∀ o, o < k → o < rows.length → Edge rows i o → T'.getD o false = true
  cl : ∀ o, o < rows.length → T'.getD o false = true → T.getD o false ≠ true → 0 ≤ M.getD o 0 ∧ ∀ o', o' < rows.length → Edge rows (M.getD o 0).toNat o' → T'.getD o' false = true

theorem getD_setB (T : List Bool) {i : Nat} (hi : i < T.length) (v : Bool) (a : Nat) : (T.set i v).getD a false = if a = i then v else T.getD a false := by
  simp only [List.getD, List.getElem?_set]
  by_cases e : i = a
  · subst e; simp [hi]
  · rw [if_neg e, if_neg (fun h => e h.symm)]
theorem count_set' (M : List Int) {o : Nat} (ho : o < M.length) (v j : Int) : (M.set o v).count j + (if M.getD o 0 = j then 1 else 0) = M.count j + if v = j then 1 else 0 := by
  induction M generalizing o with
  | nil => simp at ho
  | cons x M ih =>
    cases o with
    | zero => simp [List.count_cons]; omega
    | succ o =>
      have := ih (o := o) (by simpa using ho)
      simp only [List.set_cons_succ, List.count_cons, List.getD_cons_succ]
      omega
theorem count_at {M : List Int} {o : Nat} (ho : o < M.length) : 1 ≤ M.count (M.getD o 0) := by
  have : M.getD o 0 ∈ M := by simp [List.getD, ho]
  exact List.count_pos_iff.2 this
theorem count_two {M : List Int} {o o' : Nat} (ho : o < o') (ho' : o' < M.length) (he : M.getD o 0 = M.getD o' 0) : 2 ≤ M.count (M.getD o 0) := by
  have h1 := count_set' M (o := o) (by omega) (M.getD o 0 + 1) (M.getD o 0)
  rw [if_pos rfl, if_neg (by omega)] at h1
  have h2 := count_at (M := M.set o (M.getD o 0 + 1)) (o := o') (by simpa using ho')
  rw [getD_set _ (by omega), if_neg (by omega), ← he] at h2
  omega

/-- an output is taken for i, what it was matched with having found another one -/
theorem Won.take {rows : List (List Int)} {M M2 : List Int} {T T1 T2 T3 : List Bool} {i k : Nat} (hi : i < rows.length) (hk : k < rows.length) (he : Edge rows i k)
    (hL : Lost rows M T i k T1) (h1 : T1.getD k false ≠ true) (hT2 : T2 = T1.set k true)
    (h : (M.getD k 0 < 0 ∧ M2 = M ∧ T3 = T2 ∧ Mat rows M) ∨ (0 ≤ M.getD k 0 ∧ Won rows M T2 (M.getD k 0).toNat M2 T3)) : Won rows M T i (M2.set k i) T3 := by
  have hT2g : ∀ o, o < rows.length → T2.getD o false = if o = k then true else T1.getD o false := fun o ho => by rw [hT2, getD_setB _ (by rw [hL.len]; exact hk)]
  have hsub : ∀ o, o < rows.length → T.getD o false = true → T2.getD o false = true := fun o ho h0 => by
    rw [hT2g o ho]; split
    · rfl
    · exact hL.sub o ho h0
  have hkT : T.getD k false ≠ true := fun h0 => h1 (hL.sub k hk h0)
  have hm : Mat rows M2 := by
    rcases h with ⟨_, rfl, _, hm⟩ | ⟨_, hw⟩
    · exact hm
    · exact hw.mat
  have hM2k : M2.getD k 0 = M.getD k 0 := by
    rcases h with ⟨_, rfl, _, hm⟩ | ⟨_, hw⟩
    · rfl
    · exact hw.keep k hk (by rw [hT2g k hk, if_pos rfl])
  have hlen : M2.length = rows.length := hm.len
  refine ⟨⟨by simp [hlen], fun o ho h0 => ?_⟩, ?_, fun o ho h0 => ?_, fun o ho h0 => ?_, fun j => ?_⟩
  · rw [getD_set _ (by omega)] at h0 ⊢
    by_cases e : o = k
    · subst e; rw [if_pos rfl] at h0 ⊢; exact ⟨by omega, by simpa using he⟩
    · rw [if_neg e] at h0 ⊢; exact hm.ok o ho h0
  · rcases h with ⟨_, _, rfl, _⟩ | ⟨_, hw⟩
    · rw [hT2, List.length_set]; exact hL.len
    · exact hw.len
  · rcases h with ⟨_, _, rfl, _⟩ | ⟨_, hw⟩
    · exact hsub o ho h0
    · exact hw.sub o ho (hsub o ho h0)
  · have hne : o ≠ k := by rintro rfl; exact hkT h0
    rw [getD_set _ (by omega), if_neg hne]
    rcases h with ⟨_, rfl, _, _⟩ | ⟨_, hw⟩
    · rfl
    · exact hw.keep o ho (hsub o ho h0)
  · have hc := count_set' M2 (o := k) (by omega) i j
    rw [hM2k] at hc
    rcases h with ⟨hneg, rfl, _, _⟩ | ⟨hpos, hw⟩
    · rw [if_neg (by omega)] at hc
      by_cases e : j = i
      · subst e; rw [if_pos rfl] at hc ⊢; omega
      · rw [if_neg (by omega)] at hc; rw [if_neg e]; omega
    · have hwc := hw.cnt j
      by_cases e1 : j = (M.getD k 0).toNat
      · rw [if_pos (by omega)] at hc
        rw [if_pos e1] at hwc
        by_cases e : j = i
        · subst e; rw [if_pos rfl] at hc ⊢; omega
        · rw [if_neg (by omega)] at hc; rw [if_neg e]; omega
      · rw [if_neg (by omega)] at hc
        rw [if_neg e1] at hwc
        by_cases e : j = i
        · subst e; rw [if_pos rfl] at hc ⊢; omega
        · rw [if_neg (by omega)] at hc; rw [if_neg e]; omega
theorem Lost.start {rows : List (List Int)} {M : List Int} {T : List Bool} (i : Nat) (hT : T.length = rows.length) : Lost rows M T i 0 T :=
  ⟨hT, fun _ _ h => h, fun o ho => by omega, fun o _ h1 h2 => absurd h1 h2⟩
/-- an output that is none of i, or was tried -/
theorem Lost.skip {rows : List (List Int)} {M : List Int} {T T1 : List Bool} {i k : Nat} (h : Lost rows M T i k T1) (hs : Edge rows i k → T1.getD k false = true) : Lost rows M T i (k + 1) T1 :=
  ⟨h.len, h.sub, fun o h1 h2 he => by
    by_cases e : o = k
    · subst e; exact hs he
    · exact h.nb o (by omega) h2 he, h.cl⟩
/-- an output whose input finds no other one -/
theorem Lost.fail {rows : List (List Int)} {M : List Int} {T T1 T2 T3 : List Bool} {i k : Nat} (hk : k < rows.length) (h : Lost rows M T i k T1) (hT2 : T2 = T1.set k true) (hp : 0 ≤ M.getD k 0)
    (hl : Lost rows M T2 (M.getD k 0).toNat rows.length T3) : Lost rows M T i (k + 1) T3 := by
  have hT2g : ∀ o, o < rows.length → T2.getD o false = if o = k then true else T1.getD o false := fun o ho => by rw [hT2, getD_setB _ (by rw [h.len]; exact hk)]
  have up : ∀ o, o < rows.length → T1.getD o false = true → T3.getD o false = true := fun o ho h0 => hl.sub o ho (by
    rw [hT2g o ho]
    split
    · rfl
    · exact h0)
  refine ⟨hl.len, fun o ho h0 => up o ho (h.sub o ho h0), fun o h1 h2 he => ?_, fun o ho h1 h2 => ?_⟩
  · by_cases e : o = k
    · subst e; exact hl.sub o h2 (by rw [hT2g o h2, if_pos rfl])
    · exact up o h2 (h.nb o (by omega) h2 he)
  · by_cases e : o = k
    · subst e
      exact ⟨hp, fun o' ho' he => hl.nb o' ho' ho' he⟩
    · by_cases h3 : T1.getD o false = true
      · obtain ⟨a, b⟩ := h.cl o ho h3 h2
        exact ⟨a, fun o' ho' he => up o' ho' (b o' ho' he)⟩
      · exact hl.cl o ho h1 (by rw [hT2g o ho, if_neg e]; exact h3)

/-- the matching when the inputs behind the given ones, up to i, have been connected -/
structure Top (rows : List (List Int)) (given : List Int) (M : List Int) (i : Nat) : Prop where
  mat : Mat rows M
  cnt : ∀ j : Nat, M.count (j : Int) = if given.length ≤ j ∧ j < i then 1 else 0
  out : ∀ o, o < rows.length → (o : Int) ∈ given → M.getD o 0 = -1
def Marks (n : Nat) (given : List Int) (T : List Bool) : Prop := T.length = n ∧ ∀ o, o < n → (T.getD o false = true ↔ (o : Int) ∈ given)
theorem Top.start (rows : List (List Int)) (given : List Int) : Top rows given (List.replicate rows.length (-1)) given.length := by
  have hg : ∀ o, o < rows.length → (List.replicate rows.length (-1 : Int)).getD o 0 = -1 := fun o ho => by simp [List.getD, ho]
  refine ⟨⟨by simp, fun o ho h => by rw [hg o ho] at h; omega⟩, fun j => ?_, fun o ho _ => hg o ho⟩
  rw [if_neg (by omega)]
  apply List.count_eq_zero.2
  intro hm
  have := List.eq_of_mem_replicate hm
  omega
theorem Top.won {rows : List (List Int)} {given M M' : List Int} {T T' : List Bool} {i : Nat} (h : Top rows given M i) (hT : Marks rows.length given T) (hi : given.length ≤ i) (hw : Won rows M T i M' T') : Top rows given M' (i + 1) :=
  ⟨hw.mat, fun j => by
    rw [hw.cnt j, h.cnt j]
    by_cases e : j = i
    · subst e; rw [if_neg (by omega), if_pos rfl, if_pos (by omega)]
    · rw [if_neg e]
      by_cases h1 : given.length ≤ j ∧ j < i
      · rw [if_pos h1, if_pos (by omega)]
      · rw [if_neg h1, if_neg (by omega)], fun o ho hg => by rw [hw.keep o ho ((hT.2 o ho).2 hg)]; exact h.out o ho hg⟩
theorem Top.none {rows : List (List Int)} {given M : List Int} {T T' : List Bool} {i : Nat} (h : Top rows given M i) (hT : Marks rows.length given T) (hi : given.length ≤ i) (hin : i < rows.length) (hl : Lost rows M T i rows.length T') : ¬ CanM rows given := by
  rintro ⟨p, hp⟩
  have hmem : ∀ o, o ∈ (List.range rows.length).filter (fun o => T'.getD o false && !T.getD o false) ↔ o < rows.length ∧ T'.getD o false = true ∧ T.getD o false = false := fun o => by simp
  have hnew : ∀ j, given.length ≤ j → j < rows.length → T'.getD (p j) false = true → p j ∈ (List.range rows.length).filter (fun o => T'.getD o false && !T.getD o false) := fun j h1 h2 h3 => by
    rw [hmem]
    refine ⟨hp.lt j h1 h2, h3, ?_⟩
    cases hh : T.getD (p j) false with
    | false => rfl
    | true => exact absurd ((hT.2 _ (hp.lt j h1 h2)).1 hh) (hp.new j h1 h2)
  have hM : ∀ o, o < rows.length → 0 ≤ M.getD o 0 → given.length ≤ (M.getD o 0).toNat ∧ (M.getD o 0).toNat < i ∧ M.count (M.getD o 0) = 1 := fun o ho h0 => by
    have h1 := count_at (M := M) (o := o) (by rw [h.mat.len]; exact ho)
    have h2 := h.cnt (M.getD o 0).toNat
    have e : (((M.getD o 0).toNat : Nat) : Int) = M.getD o 0 := by omega
    rw [e] at h2
    split at h2
    · rename_i hh; exact ⟨hh.1, hh.2, h2⟩
    · omega
  have hle := nodup_le (xs := p i :: ((List.range rows.length).filter (fun o => T'.getD o false && !T.getD o false)).map fun o => p (M.getD o 0).toNat) (ys := (List.range rows.length).filter (fun o => T'.getD o false && !T.getD o false)) ?_ ?_
  · simp at hle; omega
  · refine List.nodup_cons.2 ⟨?_, ?_⟩
    · intro hm
      obtain ⟨o, ho, he⟩ := List.mem_map.1 hm
      obtain ⟨h1, h2, h3⟩ := (hmem o).1 ho
      have h4 := (hl.cl o h1 h2 (by rw [h3]; simp)).1
      obtain ⟨a, b, c⟩ := hM o h1 h4
      have := hp.inj _ _ a (by omega) hi hin he
      omega
    · rw [List.nodup_iff_pairwise_ne, List.pairwise_map]
      have hnd : ((List.range rows.length).filter (fun o => T'.getD o false && !T.getD o false)).Nodup := List.nodup_range.filter _
      rw [List.nodup_iff_pairwise_ne] at hnd
      refine hnd.imp_of_mem fun {o o'} ho ho' hne he => hne ?_
      obtain ⟨h1, h2, h3⟩ := (hmem o).1 ho
      obtain ⟨h1', h2', h3'⟩ := (hmem o').1 ho'
      have h4 := (hl.cl o h1 h2 (by rw [h3]; simp)).1
      have h4' := (hl.cl o' h1' h2' (by rw [h3']; simp)).1
      obtain ⟨a, b, c⟩ := hM o h1 h4
      obtain ⟨a', b', c'⟩ := hM o' h1' h4'
      have hj := hp.inj _ _ a (by omega) a' (by omega) he
      have hMM : M.getD o 0 = M.getD o' 0 := by omega
      rcases Nat.lt_trichotomy o o' with hlt | heq | hlt
      · have := count_two hlt (by rw [h.mat.len]; exact h1') hMM; omega
      · exact heq
      · have := count_two hlt (by rw [h.mat.len]; exact h1) hMM.symm; omega
  · intro x hx
    rcases List.mem_cons.1 hx with rfl | hx
    · exact hnew i hi hin (hl.nb _ (hp.lt i hi hin) (hp.lt i hi hin) (hp.edge i hi hin))
    · obtain ⟨o, ho, rfl⟩ := List.mem_map.1 hx
      obtain ⟨h1, h2, h3⟩ := (hmem o).1 ho
      obtain ⟨h4, h5⟩ := hl.cl o h1 h2 (by rw [h3]; simp)
      obtain ⟨a, b, c⟩ := hM o h1 h4
      exact hnew _ a (by omega) (h5 _ (hp.lt _ a (by omega)) (hp.edge _ a (by omega)))
theorem Top.all {rows : List (List Int)} {given M : List Int} (h : Top rows given M rows.length) : CanM rows given := by
  have hex : ∀ j : Nat, given.length ≤ j → j < rows.length → ∃ o, o < rows.length ∧ M.getD o 0 = j := fun j h1 h2 => by
    have hc := h.cnt j
    rw [if_pos ⟨h1, h2⟩] at hc
    have hm : (j : Int) ∈ M := List.count_pos_iff.1 (by omega)
    obtain ⟨o, ho, he⟩ := List.getElem_of_mem hm
    exact ⟨o, by rw [← h.mat.len]; exact ho, by simp [List.getD, ho, he]⟩
  have hch : ∀ j : Nat, ∃ o, given.length ≤ j → j < rows.length → o < rows.length ∧ M.getD o 0 = j := fun j => by
    by_cases h1 : given.length ≤ j ∧ j < rows.length
    · obtain ⟨o, ho⟩ := hex j h1.1 h1.2; exact ⟨o, fun _ _ => ho⟩
    · exact ⟨0, fun a b => absurd ⟨a, b⟩ h1⟩
  obtain ⟨p, hp⟩ := Classical.axiomOfChoice hch
  refine ⟨p, fun i a b => (hp i a b).1, fun i a b => ?_, fun i a b hm => ?_, fun i j a b c d e => ?_⟩
  · obtain ⟨h1, h2⟩ := hp i a b
    have := (h.mat.ok _ h1 (by rw [h2]; omega)).2
    rw [h2] at this; simpa using this
  · obtain ⟨h1, h2⟩ := hp i a b
    have := h.out _ h1 hm
    omega
  · have h1 := (hp i a b).2
    have h2 := (hp j c d).2
    rw [e] at h1
    omega
end Go.Proofs.Ytpcbgdgfdfpapaa

namespace Go.Proofs.Ytpcbgdgfdfpapaa
open Go Go.Abs Go.RowKit
variable {w0 : World}

def bools (T : List Bool) : List Value := T.map Value.bool
theorem bools_length (T : List Bool) : (bools T).length = T.length := by simp [bools]
theorem bools_set (T : List Bool) (i : Nat) (v : Bool) : (bools T).set i (.bool v) = bools (T.set i v) := by simp [bools, List.map_set]
theorem own_bool {σ : AHeap} {g : Nat} {T : List Bool} (h : σ g = some ⟨bools T, false⟩) {i : Nat} (hi : i < T.length) : ld σ g (0 + i) = some (.bool (T.getD i false)) := by
  unfold ld; rw [h]; simp [bools, hi]
def un (T : List Bool) : Nat := T.count false
theorem un_set {T : List Bool} {k : Nat} (hk : k < T.length) (h : T.getD k false = false) : un (T.set k true) + 1 = un T := by
  unfold un
  induction T generalizing k with
  | nil => simp at hk
  | cons x T ih =>
    cases k with
    | zero => simp at h; subst h; simp [List.count_cons]
    | succ k =>
      have := ih (k := k) (by simpa using hk) (by simpa using h)
      simp only [List.set_cons_succ, List.count_cons]
      omega

/-- what the closure's calls turn: what was tried, and the matching -/
structure KS (β σ : AHeap) (tr ir : Nat) (M : List Int) (T : List Bool) : Prop where
  sub : Sub β σ
  ftr : β tr = none
  fir : β ir = none
  ne : tr ≠ ir
  tr_ : σ tr = some ⟨bools T, false⟩
  ir_ : σ ir = some ⟨ints .i64 M, false⟩
/-- what they leave alone -/
structure KF (β : AHeap) (n bt br bi bc tr ir th to : Nat) (rows : List (List Int)) : Prop where
  bt_ : β bt = some ⟨[.slice (some ⟨th, to, none⟩) n 1], false⟩
  br_ : β br = some ⟨[.slice (some ⟨tr, 0, none⟩) n 1], false⟩
  bi_ : β bi = some ⟨[.slice (some ⟨ir, 0, none⟩) n 1], false⟩
  bc_ : β bc = some ⟨[.func (.func 86) #[] #[.pointer (some ⟨bt, 0, none⟩), .pointer (some ⟨br, 0, none⟩), .pointer (some ⟨bi, 0, none⟩), .pointer (some ⟨bc, 0, none⟩)]], false⟩
  rows_ : RowsAt β th to rows
  sq : Sq n rows
  small : n ≤ 6
theorem ld_of {σ : AHeap} {h : Nat} {v : Value} {ro : Bool} (e : σ h = some ⟨[v], ro⟩) : ld σ h 0 = some v := by unfold ld; rw [e]; rfl
theorem KS.putT {β σ τ : AHeap} {tr ir : Nat} {M : List Int} {T T2 : List Bool} (h : KS β σ tr ir M T) (hk : Kept tr σ τ) (he : τ tr = some ⟨bools T2, false⟩) : KS β τ tr ir M T2 :=
  ⟨hk.sub h.sub h.ftr, h.ftr, h.fir, h.ne, he, hk.at h.ir_ h.ne.symm⟩
theorem KS.putM {β σ τ : AHeap} {tr ir : Nat} {M M2 : List Int} {T : List Bool} (h : KS β σ tr ir M T) (hk : Kept ir σ τ) (he : τ ir = some ⟨ints .i64 M2, false⟩) : KS β τ tr ir M2 T :=
  ⟨hk.sub h.sub h.fir, h.ftr, h.fir, h.ne, hk.at h.tr_ h.ne, he⟩

theorem connect_at (β : AHeap) (n bt br bi bc tr ir th to : Nat) (rows : List (List Int)) (hF : KF β n bt br bi bc tr ir th to rows) : ∀ (u : Nat) (σ : AHeap) (M : List Int) (T : List Bool) (i : Nat), un T < u → i < n → KS β σ tr ir M T → Mat rows M → T.length = n →
    ACall Try.prog w0 86 [.int .i64 i, .pointer (some ⟨bt, 0, none⟩), .pointer (some ⟨br, 0, none⟩), .pointer (some ⟨bi, 0, none⟩), .pointer (some ⟨bc, 0, none⟩)] σ fun r σ' => ∃ (b : Bool) (M' : List Int) (T' : List Bool), r = .bool b ∧ KS β σ' tr ir M' T' ∧ T'.length = n ∧ un T' ≤ un T ∧ (b = true → Won rows M T i M' T') ∧ (b = false → M' = M ∧ Lost rows M T i n T') := by
  intro u
  induction u with
  | zero => intro σ M T i h; omega
  | succ u ih =>
    intro σ M T i hu hi hS hM hT
    have hn6 := hF.small
    have hrn := hF.sq.1
    have hMl := hM.len
    refine acall_go mixed Try.func86 rfl good86 fun pr => ?_
    have lbt := ld_of (hS.sub _ _ hF.bt_)
    obtain ⟨v, hx, hv⟩ := hF.rows_ i (by omega)
    have hrl := hF.sq.2 i hi
    have hen : ∀ o, en rows i o = (rows.getD i []).getD o 0 := fun _ => rfl
    generalize rows.getD i [] = row at hv hrl hen
    rcases hv with ⟨rfl, rfl⟩ | ⟨rg, ro, rfl, hrow⟩
    · simp at hrl; omega
    rw [hrl] at hx
    replace hx := ld_sub hS.sub hx
    simp -implicitDefEqProofs (disch := omega) only [List.any_cons, List.any_nil, Nat.reduceEqDiff, List.map_cons, List.map_nil, Option.map_some, Option.map_none, List.nil_append, ↓reduceIte, vcu, ↓vcd, lbt, hx]
    refine vc_loop_c mixed (by kernel_rfl) [0, 1, 2, 3, 4, 12, 13] (fun m a σ' => ∃ (k : Nat) (T1 : List Bool), m + k = n ∧ a 14 = .int .i64 k ∧ KS β σ' tr ir M T1 ∧ un T1 ≤ un T ∧ Lost rows M T i k T1) n ⟨0, T, by simp, rfl, hS, Nat.le_refl _, Lost.start i (by omega)⟩ ?_
    rintro m a σ' hc ⟨k, T1, hk, h14, hS1, hu1, hL⟩
    simp -implicitDefEqProofs (disch := omega) only [List.any_cons, List.any_nil, Nat.reduceEqDiff, List.map_cons, List.map_nil, Option.map_some, Option.map_none, List.nil_append, ↓reduceIte, vcu, ↓vcd] at hc
    obtain ⟨h0, h1, h2, h3, h4, h12, h13, -⟩ := hc
    have hrow1 : IntsAt .i64 σ' rg ro row := hrow.sub hS1.sub
    have lbr := ld_of (hS1.sub _ _ hF.br_)
    have lbi := ld_of (hS1.sub _ _ hF.bi_)
    have lbc := ld_of (hS1.sub _ _ hF.bc_)
    have hT1l := hL.len
    by_cases hlt : k < n
    · have hy := hrow1 k (by omega)
      have ltk := own_bool hS1.tr_ (i := k) (by omega)
      have lmk := own_at hS1.ir_ (i := k) (by omega)
      by_cases he : row.getD k 0 ≤ 0
      · simp -implicitDefEqProofs (disch := omega) only [List.any_cons, List.any_nil, Nat.reduceEqDiff, List.map_cons, List.map_nil, Option.map_some, Option.map_none, List.nil_append, ↓reduceIte, vcu, ↓vcd, h0, h1, h2, h3, h4, h12, h13, h14, hy, lbr, ltk]
        refine ⟨?_, m - 1, by omega, k + 1, T1, by omega, by simp, hS1, hu1, hL.skip (fun hE => ?_)⟩
        · first | trivial | simp [h0, h1, h2, h3, h4, h12, h13]
        · unfold Edge at hE; rw [hen] at hE; omega
      · have hE : Edge rows i k := by unfold Edge; rw [hen]; omega
        cases htk : T1.getD k false with
        | true =>
          rw [htk] at ltk
          simp -implicitDefEqProofs (disch := omega) only [List.any_cons, List.any_nil, Nat.reduceEqDiff, List.map_cons, List.map_nil, Option.map_some, Option.map_none, List.nil_append, ↓reduceIte, vcu, ↓vcd, h0, h1, h2, h3, h4, h12, h13, h14, hy, lbr, ltk]
          refine ⟨?_, m - 1, by omega, k + 1, T1, by omega, by simp, hS1, hu1, hL.skip (fun _ => htk)⟩
          first | trivial | simp [h0, h1, h2, h3, h4, h12, h13]
        | false =>
          rw [htk] at ltk
          have hus := un_set (T := T1) (k := k) (by omega) htk
          simp -implicitDefEqProofs (disch := omega) only [List.any_cons, List.any_nil, Nat.reduceEqDiff, List.map_cons, List.map_nil, Option.map_some, Option.map_none, List.nil_append, ↓reduceIte, vcu, ↓vcd, h0, h1, h2, h3, h4, h12, h13, h14, hy, lbr, ltk]
          refine r_set (g := tr) (i := 0 + k) (by simp -implicitDefEqProofs (disch := omega) only [List.any_cons, List.any_nil, Nat.reduceEqDiff, List.map_cons, List.map_nil, Option.map_some, Option.map_none, List.nil_append, ↓reduceIte, vcu, ↓vcd]) (by simp -implicitDefEqProofs (disch := omega) only [List.any_cons, List.any_nil, Nat.reduceEqDiff, List.map_cons, List.map_nil, Option.map_some, Option.map_none, List.nil_append, ↓reduceIte, vcu, ↓vcd]; rfl) co4 (by simp -implicitDefEqProofs (disch := omega) only [List.any_cons, List.any_nil, Nat.reduceEqDiff, List.map_cons, List.map_nil, Option.map_some, Option.map_none, List.nil_append, ↓reduceIte, vcu, ↓vcd]; rfl) hS1.tr_ (by rw [bools_length]; omega) fun τ2 k2 e2 => ?_
          simp -implicitDefEqProofs (disch := omega) only [List.any_cons, List.any_nil, Nat.reduceEqDiff, List.map_cons, List.map_nil, Option.map_some, Option.map_none, List.nil_append, ↓reduceIte, vcu, ↓vcd, Nat.zero_add] at e2
          rw [bools_set] at e2
          have hS2 := hS1.putT k2 e2
          have lbi2 := ld_of (hS2.sub _ _ hF.bi_)
          have lbc2 := ld_of (hS2.sub _ _ hF.bc_)
          have lmk2 := own_at hS2.ir_ (i := k) (by omega)
          simp -implicitDefEqProofs (disch := omega) only [List.any_cons, List.any_nil, Nat.reduceEqDiff, List.map_cons, List.map_nil, Option.map_some, Option.map_none, List.nil_append, ↓reduceIte, vcu, ↓vcd, h0, h1, h2, h3, h4, h12, h13, h14]
          have bbi := ld_of hF.bi_
          have bbc := ld_of hF.bc_
          refine region_tree mixed (quiets [0, 1] (.one 2 (.one 3 (.one 4 (.one 5 (quiets [6, 7, 8] (.one 9 (.one 10 (.one 11 (.one 12 .stop)))))))))) [([0, 1, 6, 7, 8], Sub β)] (by kernel_rfl) (by kernel_rfl) (fun p hp => by
            simp only [List.mem_cons, List.not_mem_nil, or_false] at hp
            subst hp; exact hS2.sub) ?_
          refine tree_quiets β _ _ _ (fun i hi => sf1 i (by simp at hi ⊢; omega)) (by kernel_rfl) (by kernel_rfl) ?_
          simp -implicitDefEqProofs (disch := omega) only [List.any_cons, List.any_nil, Nat.reduceEqDiff, List.map_cons, List.map_nil, Option.map_some, Option.map_none, List.nil_append, ↓reduceIte, vcu, ↓vcd, pickOps_nil, pickOps_cons, pickO_some, List.getElem?_cons_succ, List.getElem?_cons_zero, h0, h1, h2, h3, h4, h12, h13, h14, bbi]
          refine tree_one rfl ?_
          simp -implicitDefEqProofs (disch := omega) only [List.any_cons, List.any_nil, Nat.reduceEqDiff, List.map_cons, List.map_nil, Option.map_some, Option.map_none, List.nil_append, ↓reduceIte, vcu, ↓vcd]
          refine ⟨.inl rfl, tree_one rfl ?_⟩
          simp -implicitDefEqProofs (disch := omega) only [List.any_cons, List.any_nil, Nat.reduceEqDiff, List.map_cons, List.map_nil, Option.map_some, Option.map_none, List.nil_append, ↓reduceIte, vcu, ↓vcd, lmk2]
          refine ⟨.inl rfl, tree_one rfl ?_⟩
          simp -implicitDefEqProofs (disch := omega) only [List.any_cons, List.any_nil, Nat.reduceEqDiff, List.map_cons, List.map_nil, Option.map_some, Option.map_none, List.nil_append, ↓reduceIte, vcu, ↓vcd]
          refine ⟨.inl rfl, tree_one rfl ?_⟩
          simp -implicitDefEqProofs (disch := omega) only [List.any_cons, List.any_nil, Nat.reduceEqDiff, List.map_cons, List.map_nil, Option.map_some, Option.map_none, List.nil_append, ↓reduceIte, vcu, ↓vcd]
          refine ⟨.inl rfl, ?_⟩
          refine tree_quiets β _ _ _ (fun i hi => sf1 i (by simp at hi ⊢; omega)) (by kernel_rfl) (by kernel_rfl) ?_
          by_cases hneg : M.getD k 0 < 0
          · simp -implicitDefEqProofs (disch := omega) only [List.any_cons, List.any_nil, Nat.reduceEqDiff, List.map_cons, List.map_nil, Option.map_some, Option.map_none, List.nil_append, ↓reduceIte, vcu, ↓vcd, pickOps_nil, pickOps_cons, pickO_some, List.getElem?_cons_succ, List.getElem?_cons_zero, h0, h1, h2, h3, h4, h12, h13, h14]
            refine tree_one rfl ?_
            simp -implicitDefEqProofs (disch := omega) only [List.any_cons, List.any_nil, Nat.reduceEqDiff, List.map_cons, List.map_nil, Option.map_some, Option.map_none, List.nil_append, ↓reduceIte, vcu, ↓vcd]
            refine ⟨.inl rfl, tree_one rfl ?_⟩
            simp -implicitDefEqProofs (disch := omega) only [List.any_cons, List.any_nil, Nat.reduceEqDiff, List.map_cons, List.map_nil, Option.map_some, Option.map_none, List.nil_append, ↓reduceIte, vcu, ↓vcd]
            refine ⟨.inl rfl, tree_one rfl ?_⟩
            simp -implicitDefEqProofs (disch := omega) only [List.any_cons, List.any_nil, Nat.reduceEqDiff, List.map_cons, List.map_nil, Option.map_some, Option.map_none, List.nil_append, ↓reduceIte, vcu, ↓vcd]
            refine ⟨.inl rfl, tree_one rfl ?_⟩
            simp -implicitDefEqProofs (disch := omega) only [List.any_cons, List.any_nil, Nat.reduceEqDiff, List.map_cons, List.map_nil, Option.map_some, Option.map_none, List.nil_append, ↓reduceIte, vcu, ↓vcd]
            refine ⟨.inl rfl, tree_stop ?_⟩
            simp -implicitDefEqProofs (disch := omega) only [List.any_cons, List.any_nil, Nat.reduceEqDiff, List.map_cons, List.map_nil, Option.map_some, Option.map_none, List.nil_append, ↓reduceIte, vcu, ↓vcd, h0, h1, h2, h3, h4, h12, h13, h14, lbi2]
            refine r_setI (g := ir) (i := 0 + k) (v := i) (by simp -implicitDefEqProofs (disch := omega) only [List.any_cons, List.any_nil, Nat.reduceEqDiff, List.map_cons, List.map_nil, Option.map_some, Option.map_none, List.nil_append, ↓reduceIte, vcu, ↓vcd]) (by simp -implicitDefEqProofs (disch := omega) only [List.any_cons, List.any_nil, Nat.reduceEqDiff, List.map_cons, List.map_nil, Option.map_some, Option.map_none, List.nil_append, ↓reduceIte, vcu, ↓vcd]) co3 hS2.ir_ (by omega) fun τ3 k3 e3 => ?_
            rw [Nat.zero_add] at e3
            simp -implicitDefEqProofs (disch := omega) only [List.any_cons, List.any_nil, Nat.reduceEqDiff, List.map_cons, List.map_nil, Option.map_some, Option.map_none, List.nil_append, ↓reduceIte, vcu, ↓vcd]
            have hW := Won.take (i := i) (k := k) (T2 := T1.set k true) (M2 := M) (T3 := T1.set k true) (by omega) (by omega) hE hL (by rw [htk]; simp) rfl (.inl ⟨hneg, rfl, rfl, hM⟩)
            refine fin_one Try.results86 ⟨true, _, T1.set k true, ?_, hS2.putM k3 e3, by simp; omega, by omega, fun _ => hW, fun h => (by cases h)⟩
            simp -implicitDefEqProofs (disch := omega) only [List.any_cons, List.any_nil, Nat.reduceEqDiff, List.map_cons, List.map_nil, Option.map_some, Option.map_none, List.nil_append, ↓reduceIte, vcu, ↓vcd]
          · simp -implicitDefEqProofs (disch := omega) only [List.any_cons, List.any_nil, Nat.reduceEqDiff, List.map_cons, List.map_nil, Option.map_some, Option.map_none, List.nil_append, ↓reduceIte, vcu, ↓vcd, pickOps_nil, pickOps_cons, pickO_some, List.getElem?_cons_succ, List.getElem?_cons_zero, h0, h1, h2, h3, h4, h12, h13, h14, bbi, bbc]
            refine tree_one rfl ?_
            simp -implicitDefEqProofs (disch := omega) only [List.any_cons, List.any_nil, Nat.reduceEqDiff, List.map_cons, List.map_nil, Option.map_some, Option.map_none, List.nil_append, ↓reduceIte, vcu, ↓vcd]
            refine ⟨.inl rfl, tree_one rfl ?_⟩
            simp -implicitDefEqProofs (disch := omega) only [List.any_cons, List.any_nil, Nat.reduceEqDiff, List.map_cons, List.map_nil, Option.map_some, Option.map_none, List.nil_append, ↓reduceIte, vcu, ↓vcd, lmk2]
            refine ⟨.inl rfl, tree_one rfl ?_⟩
            obtain ⟨j, hj⟩ : ∃ j : Nat, M.getD k 0 = j := ⟨(M.getD k 0).toNat, by omega⟩
            have hmk := hM.ok k (by omega) (by omega)
            rw [hj] at hneg hmk ⊢
            have hjn : j < n := by omega
            simp -implicitDefEqProofs (disch := omega) only [List.any_cons, List.any_nil, Nat.reduceEqDiff, List.map_cons, List.map_nil, Option.map_some, Option.map_none, List.nil_append, ↓reduceIte, vcu, ↓vcd]
            refine r_callv ?_
            refine ⟨(86, #[.pointer (some ⟨bt, 0, none⟩), .pointer (some ⟨br, 0, none⟩), .pointer (some ⟨bi, 0, none⟩), .pointer (some ⟨bc, 0, none⟩)]), by simp -implicitDefEqProofs (disch := omega) only [List.any_cons, List.any_nil, Nat.reduceEqDiff, List.map_cons, List.map_nil, Option.map_some, Option.map_none, List.nil_append, ↓reduceIte, vcu, ↓vcd], ?_⟩
            simp -implicitDefEqProofs (disch := omega) only [List.any_cons, List.any_nil, Nat.reduceEqDiff, List.map_cons, List.map_nil, Option.map_some, Option.map_none, List.nil_append, ↓reduceIte, vcu, ↓vcd, List.cons_append]
            refine (ih τ2 M (T1.set k true) j (by omega) hjn hS2 hM (by simp; omega)).mono ?_
            rintro r σ4 ⟨b, M4, T4, rfl, hS4, hT4, hu4, hw4, hl4⟩
            have hjt : (M.getD k 0).toNat = j := by omega
            cases b with
            | true =>
              simp -implicitDefEqProofs (disch := omega) only [List.any_cons, List.any_nil, Nat.reduceEqDiff, List.map_cons, List.map_nil, Option.map_some, Option.map_none, List.nil_append, ↓reduceIte, vcu, ↓vcd, opK_some]
              refine ⟨keep_of rfl (fun p hp => by
                simp only [List.mem_cons, List.not_mem_nil, or_false] at hp
                subst hp; exact .inr hS4.sub), tree_one rfl ?_⟩
              simp -implicitDefEqProofs (disch := omega) only [List.any_cons, List.any_nil, Nat.reduceEqDiff, List.map_cons, List.map_nil, Option.map_some, Option.map_none, List.nil_append, ↓reduceIte, vcu, ↓vcd]
              refine ⟨.inl rfl, tree_stop ?_⟩
              have lbi4 := ld_of (hS4.sub _ _ hF.bi_)
              have hW4 := hw4 rfl
              have hM4l := hW4.mat.len
              simp -implicitDefEqProofs (disch := omega) only [List.any_cons, List.any_nil, Nat.reduceEqDiff, List.map_cons, List.map_nil, Option.map_some, Option.map_none, List.nil_append, ↓reduceIte, vcu, ↓vcd, h0, h1, h2, h3, h4, h12, h13, h14, lbi4]
              refine r_setI (g := ir) (i := 0 + k) (v := i) (by simp -implicitDefEqProofs (disch := omega) only [List.any_cons, List.any_nil, Nat.reduceEqDiff, List.map_cons, List.map_nil, Option.map_some, Option.map_none, List.nil_append, ↓reduceIte, vcu, ↓vcd]) (by simp -implicitDefEqProofs (disch := omega) only [List.any_cons, List.any_nil, Nat.reduceEqDiff, List.map_cons, List.map_nil, Option.map_some, Option.map_none, List.nil_append, ↓reduceIte, vcu, ↓vcd]) co3 hS4.ir_ (by omega) fun τ5 k5 e5 => ?_
              rw [Nat.zero_add] at e5
              simp -implicitDefEqProofs (disch := omega) only [List.any_cons, List.any_nil, Nat.reduceEqDiff, List.map_cons, List.map_nil, Option.map_some, Option.map_none, List.nil_append, ↓reduceIte, vcu, ↓vcd]
              have hW := Won.take (i := i) (k := k) (T2 := T1.set k true) (M2 := M4) (T3 := T4) (by omega) (by omega) hE hL (by rw [htk]; simp) rfl (.inr ⟨by omega, by rw [hjt]; exact hW4⟩)
              refine fin_one Try.results86 ⟨true, _, T4, ?_, hS4.putM k5 e5, hT4, by omega, fun _ => hW, fun h => (by cases h)⟩
              simp -implicitDefEqProofs (disch := omega) only [List.any_cons, List.any_nil, Nat.reduceEqDiff, List.map_cons, List.map_nil, Option.map_some, Option.map_none, List.nil_append, ↓reduceIte, vcu, ↓vcd]
            | false =>
              obtain ⟨rfl, hL4⟩ := hl4 rfl
              simp -implicitDefEqProofs (disch := omega) only [List.any_cons, List.any_nil, Nat.reduceEqDiff, List.map_cons, List.map_nil, Option.map_some, Option.map_none, List.nil_append, ↓reduceIte, vcu, ↓vcd, opK_some]
              refine ⟨keep_of rfl (fun p hp => by
                simp only [List.mem_cons, List.not_mem_nil, or_false] at hp
                subst hp; exact .inr hS4.sub), tree_one rfl ?_⟩
              simp -implicitDefEqProofs (disch := omega) only [List.any_cons, List.any_nil, Nat.reduceEqDiff, List.map_cons, List.map_nil, Option.map_some, Option.map_none, List.nil_append, ↓reduceIte, vcu, ↓vcd]
              refine ⟨.inl rfl, tree_stop ?_⟩
              simp -implicitDefEqProofs (disch := omega) only [List.any_cons, List.any_nil, Nat.reduceEqDiff, List.map_cons, List.map_nil, Option.map_some, Option.map_none, List.nil_append, ↓reduceIte, vcu, ↓vcd, h0, h1, h2, h3, h4, h12, h13, h14]
              refine ⟨?_, m - 1, by omega, k + 1, T4, by omega, by simp, hS4, by omega, hL.fail (by omega) rfl (by omega) (by rw [hjt, hrn]; exact hL4)⟩
              first | trivial | simp [h0, h1, h2, h3, h4, h12, h13]
    · simp -implicitDefEqProofs (disch := omega) only [List.any_cons, List.any_nil, Nat.reduceEqDiff, List.map_cons, List.map_nil, Option.map_some, Option.map_none, List.nil_append, ↓reduceIte, vcu, ↓vcd, h0, h1, h2, h3, h4, h12, h13, h14]
      have e : k = n := by omega
      subst e
      refine fin_one Try.results86 ⟨false, M, T1, ?_, hS1, by omega, hu1, fun h => (by cases h), fun _ => ⟨rfl, hL⟩⟩
      simp -implicitDefEqProofs (disch := omega) only [List.any_cons, List.any_nil, Nat.reduceEqDiff, List.map_cons, List.map_nil, Option.map_some, Option.map_none, List.nil_append, ↓reduceIte, vcu, ↓vcd]
end Go.Proofs.Ytpcbgdgfdfpapaa

namespace Go.Proofs.Ytpcbgdgfdfpapaa
open Go Go.Abs Go.RowKit
variable {w0 : World}

theorem set_fill (k n : Nat) (hk : k < n) : (List.replicate k (-1 : Int) ++ List.replicate (n - k) 0).set k (-1) = List.replicate (k + 1) (-1) ++ List.replicate (n - (k + 1)) 0 := by
  obtain ⟨m, hm⟩ : ∃ m, n - k = m + 1 := ⟨n - k - 1, by omega⟩
  have e : n - (k + 1) = m := by omega
  rw [hm, e, List.set_append_right _ _ (by simp), List.length_replicate, Nat.sub_self, List.replicate_succ, List.set_cons_zero, List.replicate_succ', List.append_assoc]; rfl
theorem azeros_false (l : Nat) : azeros (.bool false) (l * 1) = bools (List.replicate l false) := by
  rw [Nat.mul_one, azeros_one _ rfl]; simp [bools]
theorem Marks.start (n : Nat) : Marks n [] (List.replicate n false) := ⟨by simp, fun o ho => by simp [List.getD, ho]⟩
theorem Marks.step {n : Nat} {given : List Int} {T : List Bool} {x : Int} (h : Marks n given T) (h0 : 0 ≤ x) (hx : x < n) : Marks n (given ++ [x]) (T.set x.toNat true) := by
  refine ⟨by simp [h.1], fun o ho => ?_⟩
  rw [getD_setB _ (by rw [h.1]; omega)]
  by_cases e : o = x.toNat
  · subst e
    rw [if_pos rfl]
    simp only [List.mem_append, List.mem_singleton, true_iff]
    right; omega
  · rw [if_neg e, h.2 o ho, List.mem_append, List.mem_singleton]
    constructor
    · exact fun hh => .inl hh
    · rintro (hh | hh)
      · exact hh
      · exact absurd (by omega) e

theorem canMatch_at (σ : AHeap) (th to : Nat) (rows : List (List Int)) (n : Nat) (gh go : Nat) (given : List Int) (hv : RowsAt σ th to rows) (hsq : Sq n rows) (hn6 : n ≤ 6) (hg : IntsAt .i64 σ gh go given) (hgl : given.length ≤ n) (hgi : ∀ j, j < given.length → 0 ≤ given.getD j 0 ∧ given.getD j 0 < n) :
    ACall Try.prog w0 79 [.slice (some ⟨th, to, none⟩) n 1, .slice (some ⟨gh, go, none⟩) given.length 1] σ fun r σ' => ∃ b : Bool, r = .bool b ∧ (b = true ↔ CanM rows given) ∧ Sub σ σ' := by
  refine acall_go mixed Try.func79 rfl good79 fun pr => ?_
  simp -implicitDefEqProofs (disch := omega) only [List.any_cons, List.any_nil, Nat.reduceEqDiff, List.map_cons, List.map_nil, Option.map_some, Option.map_none, List.nil_append, ↓reduceIte, vcu, ↓vcd]
  refine r_boxed fun bt σ1 nbt s1 ebt => ?_
  replace ebt : σ1 bt = some ⟨[.slice (some ⟨th, to, none⟩) n 1], false⟩ := by
    rw [ebt]; simp -implicitDefEqProofs (disch := omega) only [List.any_cons, List.any_nil, Nat.reduceEqDiff, List.map_cons, List.map_nil, Option.map_some, Option.map_none, List.nil_append, ↓reduceIte, vcu, ↓vcd]; rfl
  simp -implicitDefEqProofs (disch := omega) only [List.any_cons, List.any_nil, Nat.reduceEqDiff, List.map_cons, List.map_nil, Option.map_some, Option.map_none, List.nil_append, ↓reduceIte, vcu, ↓vcd]
  have lbt := ld_of ebt
  simp -implicitDefEqProofs (disch := omega) only [List.any_cons, List.any_nil, Nat.reduceEqDiff, List.map_cons, List.map_nil, Option.map_some, Option.map_none, List.nil_append, ↓reduceIte, vcu, ↓vcd, lbt]
  refine r_makeI (kx := .i64) (ky := .i64) (l := n) (c := n) el30 (by omega) (by simp -implicitDefEqProofs (disch := omega) only [List.any_cons, List.any_nil, Nat.reduceEqDiff, List.map_cons, List.map_nil, Option.map_some, Option.map_none, List.nil_append, ↓reduceIte, vcu, ↓vcd]) (by simp -implicitDefEqProofs (disch := omega) only [List.any_cons, List.any_nil, Nat.reduceEqDiff, List.map_cons, List.map_nil, Option.map_some, Option.map_none, List.nil_append, ↓reduceIte, vcu, ↓vcd]) (by omega) fun ir σ2 nir s2 eir => ?_
  refine r_new ze30 fun bi σ3 nbi s3 ebi => ?_
  refine r_set (g := bi) (i := 0) (by simp -implicitDefEqProofs (disch := omega) only [List.any_cons, List.any_nil, Nat.reduceEqDiff, List.map_cons, List.map_nil, Option.map_some, Option.map_none, List.nil_append, ↓reduceIte, vcu, ↓vcd]) (by simp -implicitDefEqProofs (disch := omega) only [List.any_cons, List.any_nil, Nat.reduceEqDiff, List.map_cons, List.map_nil, Option.map_some, Option.map_none, List.nil_append, ↓reduceIte, vcu, ↓vcd]; rfl) co30 (by simp -implicitDefEqProofs (disch := omega) only [List.any_cons, List.any_nil, Nat.reduceEqDiff, List.map_cons, List.map_nil, Option.map_some, Option.map_none, List.nil_append, ↓reduceIte, vcu, ↓vcd]; rfl) ebi (by decide) fun σ4 k4 ebi4 => ?_
  replace ebi4 : σ4 bi = some ⟨[.slice (some ⟨ir, 0, none⟩) n 1], false⟩ := by
    rw [ebi4]; simp -implicitDefEqProofs (disch := omega) only [List.any_cons, List.any_nil, Nat.reduceEqDiff, List.map_cons, List.map_nil, Option.map_some, Option.map_none, List.nil_append, ↓reduceIte, vcu, ↓vcd]; rfl
  have lbi4 := ld_of ebi4
  have h31 : bt ≠ bi := ne_of' nbi (s2 _ _ ebt)
  have h32 : ir ≠ bi := ne_of' nbi eir
  have h21 : bt ≠ ir := ne_of' nir ebt
  have ebt4 := k4.at (s3 _ _ (s2 _ _ ebt)) h31
  have eir4 := k4.at (s3 _ _ eir) h32
  have hs4 : Sub σ σ4 := k4.sub (s1.trans (s2.trans s3)) (free_sub (s1.trans s2) nbi)
  have fbt := nbt
  have fir := free_sub s1 nir
  have fbi := free_sub (s1.trans s2) nbi
  clear ebi k4 s3 eir s2 s1 ebt lbt nbt nir nbi
  simp -implicitDefEqProofs (disch := omega) only [List.any_cons, List.any_nil, Nat.reduceEqDiff, List.map_cons, List.map_nil, Option.map_some, Option.map_none, List.nil_append, ↓reduceIte, vcu, ↓vcd, lbi4]
  refine vc_loop_c mixed (by kernel_rfl) [1, 2, 5, 15, 16] (fun m a σ' => ∃ k : Nat, m + k = n ∧ a 17 = .int .i64 k ∧ Sub σ σ' ∧ σ' bt = some ⟨[.slice (some ⟨th, to, none⟩) n 1], false⟩ ∧ σ' bi = some ⟨[.slice (some ⟨ir, 0, none⟩) n 1], false⟩ ∧ σ' ir = some ⟨ints .i64 (List.replicate k (-1) ++ List.replicate (n - k) 0), false⟩) n
    ⟨0, by simp, rfl, hs4, ebt4, ebi4, by simpa using eir4⟩ ?_
  clear hs4 ebt4 ebi4 eir4 lbi4
  rintro m a σ' hc ⟨k, hk, h17, hs, ebt, ebi, eir⟩
  simp -implicitDefEqProofs (disch := omega) only [List.any_cons, List.any_nil, Nat.reduceEqDiff, List.map_cons, List.map_nil, Option.map_some, Option.map_none, List.nil_append, ↓reduceIte, vcu, ↓vcd] at hc
  obtain ⟨h1, h2, h5, h15, h16, -⟩ := hc
  by_cases hlt : k < n
  · have lbi := ld_of ebi
    simp -implicitDefEqProofs (disch := omega) only [List.any_cons, List.any_nil, Nat.reduceEqDiff, List.map_cons, List.map_nil, Option.map_some, Option.map_none, List.nil_append, ↓reduceIte, vcu, ↓vcd, h1, h2, h5, h15, h16, h17, lbi]
    refine r_setI (g := ir) (i := 0 + k) (v := -1) (by simp -implicitDefEqProofs (disch := omega) only [List.any_cons, List.any_nil, Nat.reduceEqDiff, List.map_cons, List.map_nil, Option.map_some, Option.map_none, List.nil_append, ↓reduceIte, vcu, ↓vcd]) (by simp -implicitDefEqProofs (disch := omega) only [List.any_cons, List.any_nil, Nat.reduceEqDiff, List.map_cons, List.map_nil, Option.map_some, Option.map_none, List.nil_append, ↓reduceIte, vcu, ↓vcd]) co3 eir (by simp; omega) fun τ5 k5 e5 => ?_
    rw [Nat.zero_add, set_fill k n hlt] at e5
    simp -implicitDefEqProofs (disch := omega) only [List.any_cons, List.any_nil, Nat.reduceEqDiff, List.map_cons, List.map_nil, Option.map_some, Option.map_none, List.nil_append, ↓reduceIte, vcu, ↓vcd, h17]
    refine ⟨?_, m - 1, by omega, k + 1, by omega, by simp, k5.sub hs fir, k5.at ebt h21, k5.at ebi h32.symm, e5⟩
    first | trivial | simp [h1, h2, h5, h15, h16]
  have e2 : n = k := by omega
  subst e2
  rw [Nat.sub_self, List.replicate_zero, List.append_nil] at eir
  simp -implicitDefEqProofs (disch := omega) only [List.any_cons, List.any_nil, Nat.reduceEqDiff, List.map_cons, List.map_nil, Option.map_some, Option.map_none, List.nil_append, ↓reduceIte, vcu, ↓vcd, h1, h2, h5, h15, h16, h17]
  refine r_new ze49 fun br σ1 nbr s1 ebr => ?_
  simp -implicitDefEqProofs (disch := omega) only [List.any_cons, List.any_nil, Nat.reduceEqDiff, List.map_cons, List.map_nil, Option.map_some, Option.map_none, List.nil_append, ↓reduceIte, vcu, ↓vcd]
  refine r_new (show azero Try.prog 54 = some .nilFunc from by kernel_rfl) fun bc σ2 nbc s2 ebc => ?_
  simp -implicitDefEqProofs (disch := omega) only [List.any_cons, List.any_nil, Nat.reduceEqDiff, List.map_cons, List.map_nil, Option.map_some, Option.map_none, List.nil_append, ↓reduceIte, vcu, ↓vcd, h2, h5]
  refine r_set (g := bc) (i := 0) (by simp -implicitDefEqProofs (disch := omega) only [List.any_cons, List.any_nil, Nat.reduceEqDiff, List.map_cons, List.map_nil, Option.map_some, Option.map_none, List.nil_append, ↓reduceIte, vcu, ↓vcd]) (by simp -implicitDefEqProofs (disch := omega) only [List.any_cons, List.any_nil, Nat.reduceEqDiff, List.map_cons, List.map_nil, Option.map_some, Option.map_none, List.nil_append, ↓reduceIte, vcu, ↓vcd]; rfl) co54 (by simp -implicitDefEqProofs (disch := omega) only [List.any_cons, List.any_nil, Nat.reduceEqDiff, List.map_cons, List.map_nil, Option.map_some, Option.map_none, List.nil_append, ↓reduceIte, vcu, ↓vcd]; rfl) ebc (by decide) fun σ3 k3 ebc3 => ?_
  replace ebc3 : σ3 bc = some ⟨[.func (.func 86) #[] #[.pointer (some ⟨bt, 0, none⟩), .pointer (some ⟨br, 0, none⟩), .pointer (some ⟨bi, 0, none⟩), .pointer (some ⟨bc, 0, none⟩)]], false⟩ := by
    rw [ebc3]; simp -implicitDefEqProofs (disch := omega) only [List.any_cons, List.any_nil, Nat.reduceEqDiff, List.map_cons, List.map_nil, Option.map_some, Option.map_none, List.nil_append, ↓reduceIte, vcu, ↓vcd, h2, h5]; rfl
  have g1 : bt ≠ br := ne_of' nbr ebt
  have g2 : bi ≠ br := ne_of' nbr ebi
  have g3 : ir ≠ br := ne_of' nbr eir
  have g4 : bt ≠ bc := ne_of' nbc (s1 _ _ ebt)
  have g5 : bi ≠ bc := ne_of' nbc (s1 _ _ ebi)
  have g6 : ir ≠ bc := ne_of' nbc (s1 _ _ eir)
  have g7 : br ≠ bc := ne_of' nbc ebr
  have fbr := free_sub hs nbr
  have fbc := free_sub (hs.trans s1) nbc
  have hs3 : Sub σ σ3 := k3.sub (hs.trans (s1.trans s2)) fbc
  have ebt3 := k3.at (s2 _ _ (s1 _ _ ebt)) g4
  have ebi3 := k3.at (s2 _ _ (s1 _ _ ebi)) g5
  have eir3 := k3.at (s2 _ _ (s1 _ _ eir)) g6
  have ebr3 : ∃ v0, σ3 br = some ⟨[v0], false⟩ := ⟨_, k3.at (s2 _ _ ebr) g7⟩
  have htop := Top.start rows given
  rw [hsq.1] at htop
  clear k3 ebc s2 s1 ebr nbr nbc ebt ebi eir hs
  simp -implicitDefEqProofs (disch := omega) only [List.any_cons, List.any_nil, Nat.reduceEqDiff, List.map_cons, List.map_nil, Option.map_some, Option.map_none, List.nil_append, ↓reduceIte, vcu, ↓vcd, h1, h2, h5]
  refine vc_loop_c mixed (by kernel_rfl) [1, 2, 5, 7, 8] (fun m a σ' => ∃ (i : Nat) (M : List Int), m + i = n ∧ given.length ≤ i ∧ a 9 = .int .i64 i ∧ Sub σ σ' ∧ σ' bt = some ⟨[.slice (some ⟨th, to, none⟩) n 1], false⟩ ∧ σ' bi = some ⟨[.slice (some ⟨ir, 0, none⟩) n 1], false⟩ ∧
      σ' bc = some ⟨[.func (.func 86) #[] #[.pointer (some ⟨bt, 0, none⟩), .pointer (some ⟨br, 0, none⟩), .pointer (some ⟨bi, 0, none⟩), .pointer (some ⟨bc, 0, none⟩)]], false⟩ ∧ (∃ v0, σ' br = some ⟨[v0], false⟩) ∧ σ' ir = some ⟨ints .i64 M, false⟩ ∧ Top rows given M i) (n - given.length)
    ⟨given.length, _, by omega, Nat.le_refl _, rfl, hs3, ebt3, ebi3, ebc3, ebr3, eir3, htop⟩ ?_
  clear hs3 ebt3 ebi3 ebc3 ebr3 eir3 htop
  rintro m2 a2 σ4 hc ⟨i, M, hi, hgi2, h9, hs, ebt, ebi, ebc, ⟨v0, ebr⟩, eir, htop⟩
  simp -implicitDefEqProofs (disch := omega) only [List.any_cons, List.any_nil, Nat.reduceEqDiff, List.map_cons, List.map_nil, Option.map_some, Option.map_none, List.nil_append, ↓reduceIte, vcu, ↓vcd, h1, h2, h5] at hc
  obtain ⟨c1, c2, c5, c7, c8, -⟩ := hc
  have lbt := ld_of ebt
  have hMl := htop.mat.len
  rw [hsq.1] at hMl
  by_cases hlt2 : i < n
  · simp -implicitDefEqProofs (disch := omega) only [List.any_cons, List.any_nil, Nat.reduceEqDiff, List.map_cons, List.map_nil, Option.map_some, Option.map_none, List.nil_append, ↓reduceIte, vcu, ↓vcd, c1, c2, c5, c7, c8, h9, lbt]
    refine r_make (kx := .i64) (ky := .i64) (l := n) (c := n) el49 (by simp -implicitDefEqProofs (disch := omega) only [List.any_cons, List.any_nil, Nat.reduceEqDiff, List.map_cons, List.map_nil, Option.map_some, Option.map_none, List.nil_append, ↓reduceIte, vcu, ↓vcd]) (by simp -implicitDefEqProofs (disch := omega) only [List.any_cons, List.any_nil, Nat.reduceEqDiff, List.map_cons, List.map_nil, Option.map_some, Option.map_none, List.nil_append, ↓reduceIte, vcu, ↓vcd]) (by omega) fun tr σ5 ntr s5 etr => ?_
    rw [azeros_false] at etr
    have d1 : bt ≠ tr := ne_of' ntr ebt
    have d2 : bi ≠ tr := ne_of' ntr ebi
    have d3 : bc ≠ tr := ne_of' ntr ebc
    have d4 : br ≠ tr := ne_of' ntr ebr
    have d5 : ir ≠ tr := ne_of' ntr eir
    have ftr := free_sub hs ntr
    refine r_set (g := br) (i := 0) (by simp -implicitDefEqProofs (disch := omega) only [List.any_cons, List.any_nil, Nat.reduceEqDiff, List.map_cons, List.map_nil, Option.map_some, Option.map_none, List.nil_append, ↓reduceIte, vcu, ↓vcd, c7]) (by simp -implicitDefEqProofs (disch := omega) only [List.any_cons, List.any_nil, Nat.reduceEqDiff, List.map_cons, List.map_nil, Option.map_some, Option.map_none, List.nil_append, ↓reduceIte, vcu, ↓vcd]; rfl) co49 (by simp -implicitDefEqProofs (disch := omega) only [List.any_cons, List.any_nil, Nat.reduceEqDiff, List.map_cons, List.map_nil, Option.map_some, Option.map_none, List.nil_append, ↓reduceIte, vcu, ↓vcd]; rfl) (s5 _ _ ebr) (by simp) fun σ6 k6 ebr6 => ?_
    replace ebr6 : σ6 br = some ⟨[.slice (some ⟨tr, 0, none⟩) n 1], false⟩ := by
      rw [ebr6]; simp -implicitDefEqProofs (disch := omega) only [List.any_cons, List.any_nil, Nat.reduceEqDiff, List.map_cons, List.map_nil, Option.map_some, Option.map_none, List.nil_append, ↓reduceIte, vcu, ↓vcd]; rfl
    have hs6 : Sub σ σ6 := k6.sub (hs.trans s5) fbr
    have ebt6 := k6.at (s5 _ _ ebt) g1
    have ebi6 := k6.at (s5 _ _ ebi) g2
    have ebc6 := k6.at (s5 _ _ ebc) g7.symm
    have eir6 := k6.at (s5 _ _ eir) g3
    have etr6 := k6.at etr d4.symm
    clear k6 s5 ebt ebi ebc eir etr ebr lbt ntr hs
    simp -implicitDefEqProofs (disch := omega) only [List.any_cons, List.any_nil, Nat.reduceEqDiff, List.map_cons, List.map_nil, Option.map_some, Option.map_none, List.nil_append, ↓reduceIte, vcu, ↓vcd, c1]
    refine vc_loop_c mixed (by kernel_rfl) [1, 2, 5, 7, 8, 9, 36, 37] (fun m a σ' => ∃ (k : Nat) (T : List Bool), m + k = given.length ∧ a 38 = .int .i64 k ∧ Sub σ σ' ∧ σ' bt = some ⟨[.slice (some ⟨th, to, none⟩) n 1], false⟩ ∧ σ' bi = some ⟨[.slice (some ⟨ir, 0, none⟩) n 1], false⟩ ∧
      σ' bc = some ⟨[.func (.func 86) #[] #[.pointer (some ⟨bt, 0, none⟩), .pointer (some ⟨br, 0, none⟩), .pointer (some ⟨bi, 0, none⟩), .pointer (some ⟨bc, 0, none⟩)]], false⟩ ∧ σ' br = some ⟨[.slice (some ⟨tr, 0, none⟩) n 1], false⟩ ∧ σ' ir = some ⟨ints .i64 M, false⟩ ∧ σ' tr = some ⟨bools T, false⟩ ∧ Marks n (given.take k) T) given.length
      ⟨0, _, by simp, rfl, hs6, ebt6, ebi6, ebc6, ebr6, eir6, etr6, by simpa using Marks.start n⟩ ?_
    clear hs6 ebt6 ebi6 ebc6 ebr6 eir6 etr6
    rintro m3 a3 σ7 hc3 ⟨k, T, hk3, h38, hs, ebt, ebi, ebc, ebr, eir, etr, hMk⟩
    simp -implicitDefEqProofs (disch := omega) only [List.any_cons, List.any_nil, Nat.reduceEqDiff, List.map_cons, List.map_nil, Option.map_some, Option.map_none, List.nil_append, ↓reduceIte, vcu, ↓vcd, c1, c2, c5, c7, c8, h9] at hc3
    obtain ⟨e1, e2, e5, e7, e8, e9, e36, e37, -⟩ := hc3
    have lbr := ld_of ebr
    by_cases hk3l : k < given.length
    · have hx := (hg.sub hs) k hk3l
      have hxb := hgi k hk3l
      have htk : given.take (k + 1) = given.take k ++ [given.getD k 0] := take_succ' hk3l
      generalize given.getD k 0 = x at hx hxb htk
      simp -implicitDefEqProofs (disch := omega) only [List.any_cons, List.any_nil, Nat.reduceEqDiff, List.map_cons, List.map_nil, Option.map_some, Option.map_none, List.nil_append, ↓reduceIte, vcu, ↓vcd, e1, e2, e5, e7, e8, e9, e36, e37, h38, hx, lbr]
      refine r_set (g := tr) (i := 0 + x.toNat) (by simp -implicitDefEqProofs (disch := omega) only [List.any_cons, List.any_nil, Nat.reduceEqDiff, List.map_cons, List.map_nil, Option.map_some, Option.map_none, List.nil_append, ↓reduceIte, vcu, ↓vcd]) (by simp -implicitDefEqProofs (disch := omega) only [List.any_cons, List.any_nil, Nat.reduceEqDiff, List.map_cons, List.map_nil, Option.map_some, Option.map_none, List.nil_append, ↓reduceIte, vcu, ↓vcd]; rfl) co4 (by simp -implicitDefEqProofs (disch := omega) only [List.any_cons, List.any_nil, Nat.reduceEqDiff, List.map_cons, List.map_nil, Option.map_some, Option.map_none, List.nil_append, ↓reduceIte, vcu, ↓vcd]; rfl) etr (by rw [bools_length, hMk.1]; omega) fun σ8 k8 etr8 => ?_
      simp -implicitDefEqProofs (disch := omega) only [List.any_cons, List.any_nil, Nat.reduceEqDiff, List.map_cons, List.map_nil, Option.map_some, Option.map_none, List.nil_append, ↓reduceIte, vcu, ↓vcd, Nat.zero_add] at etr8
      rw [bools_set] at etr8
      simp -implicitDefEqProofs (disch := omega) only [List.any_cons, List.any_nil, Nat.reduceEqDiff, List.map_cons, List.map_nil, Option.map_some, Option.map_none, List.nil_append, ↓reduceIte, vcu, ↓vcd, h38]
      refine ⟨?_, m3 - 1, by omega, k + 1, _, by omega, by simp, k8.sub hs ftr, k8.at ebt d1, k8.at ebi d2, k8.at ebc d3, k8.at ebr d4, k8.at eir d5, etr8, by rw [htk]; exact hMk.step hxb.1 hxb.2⟩
      first | trivial | simp [e1, e2, e5, e7, e8, e9, e36, e37, c1, c2, c5, c7, c8, h9]
    · have ek : k = given.length := by omega
      rw [ek, List.take_length] at hMk
      have lbc := ld_of ebc
      simp -implicitDefEqProofs (disch := omega) only [List.any_cons, List.any_nil, Nat.reduceEqDiff, List.map_cons, List.map_nil, Option.map_some, Option.map_none, List.nil_append, ↓reduceIte, vcu, ↓vcd, e1, e2, e5, e7, e8, e9, e36, e37, h38, lbc]
      have hβ : ∀ x ob, x ≠ ir → x ≠ tr → σ7 x = some ob → ((σ7.upd ir none).upd tr none) x = some ob := fun x ob a b e => by rw [AHeap.upd_ne _ _ b, AHeap.upd_ne _ _ a]; exact e
      have hsβ : Sub ((σ7.upd ir none).upd tr none) σ7 := (sub_erase _ _).trans (sub_erase _ _)
      have hσβ : Sub σ ((σ7.upd ir none).upd tr none) := fun x ob e => hβ x ob (ne_of' fir e) (ne_of' ftr e) (hs x ob e)
      have hF : KF ((σ7.upd ir none).upd tr none) n bt br bi bc tr ir th to rows :=
        ⟨hβ _ _ h21 d1 ebt, hβ _ _ g3.symm d4 ebr, hβ _ _ h32.symm d2 ebi, hβ _ _ g6.symm d3 ebc, hv.sub hσβ, hsq, hn6⟩
      have hKS : KS ((σ7.upd ir none).upd tr none) σ7 tr ir M T := ⟨hsβ, AHeap.upd_same _ _ _, by rw [AHeap.upd_ne _ _ d5]; exact AHeap.upd_same _ _ _, d5.symm, etr, eir⟩
      refine r_callv ?_
      refine ⟨(86, #[.pointer (some ⟨bt, 0, none⟩), .pointer (some ⟨br, 0, none⟩), .pointer (some ⟨bi, 0, none⟩), .pointer (some ⟨bc, 0, none⟩)]), by simp -implicitDefEqProofs (disch := omega) only [List.any_cons, List.any_nil, Nat.reduceEqDiff, List.map_cons, List.map_nil, Option.map_some, Option.map_none, List.nil_append, ↓reduceIte, vcu, ↓vcd], ?_⟩
      simp -implicitDefEqProofs (disch := omega) only [List.any_cons, List.any_nil, Nat.reduceEqDiff, List.map_cons, List.map_nil, Option.map_some, Option.map_none, List.nil_append, ↓reduceIte, vcu, ↓vcd, List.cons_append, e9]
      refine (connect_at _ n bt br bi bc tr ir th to rows hF (un T + 1) σ7 M T i (by omega) hlt2 hKS htop.mat hMk.1).mono ?_
      rintro r σ8 ⟨b, M', T', rfl, hS8, hT8, -, hw, hl⟩
      have hs8 : Sub σ σ8 := hσβ.trans hS8.sub
      have hMk' : Marks rows.length given T := by rw [hsq.1]; exact hMk
      cases b with
      | true =>
        simp -implicitDefEqProofs (disch := omega) only [List.any_cons, List.any_nil, Nat.reduceEqDiff, List.map_cons, List.map_nil, Option.map_some, Option.map_none, List.nil_append, ↓reduceIte, vcu, ↓vcd, opK_some, e9]
        refine ⟨?_, m2 - 1, by omega, i + 1, M', by omega, by omega, by simp, hs8, hS8.sub _ _ (hβ _ _ h21 d1 ebt), hS8.sub _ _ (hβ _ _ h32.symm d2 ebi), hS8.sub _ _ (hβ _ _ g6.symm d3 ebc), ⟨_, hS8.sub _ _ (hβ _ _ g3.symm d4 ebr)⟩, hS8.ir_, htop.won hMk' hgi2 (hw rfl)⟩
        simp [e1, e2, e5, e7, e8, c1, c2, c5, c7, c8, h1, h2, h5]
      | false =>
        simp -implicitDefEqProofs (disch := omega) only [List.any_cons, List.any_nil, Nat.reduceEqDiff, List.map_cons, List.map_nil, Option.map_some, Option.map_none, List.nil_append, ↓reduceIte, vcu, ↓vcd, opK_some]
        obtain ⟨rfl, hL⟩ := hl rfl
        rw [← hsq.1] at hL
        refine fin_one Try.results79 ⟨false, ?_, ⟨fun h => (by cases h), fun h => absurd h (htop.none hMk' hgi2 (by rw [hsq.1]; exact hlt2) hL)⟩, hs8⟩
        simp -implicitDefEqProofs (disch := omega) only [List.any_cons, List.any_nil, Nat.reduceEqDiff, List.map_cons, List.map_nil, Option.map_some, Option.map_none, List.nil_append, ↓reduceIte, vcu, ↓vcd]
  · have e : i = n := by omega
    subst e
    simp -implicitDefEqProofs (disch := omega) only [List.any_cons, List.any_nil, Nat.reduceEqDiff, List.map_cons, List.map_nil, Option.map_some, Option.map_none, List.nil_append, ↓reduceIte, vcu, ↓vcd, c1, c2, c5, c7, c8, h9, lbt]
    rw [← hsq.1] at htop
    refine fin_one Try.results79 ⟨true, ?_, ⟨fun _ => htop.all, fun _ => rfl⟩, hs⟩
    simp -implicitDefEqProofs (disch := omega) only [List.any_cons, List.any_nil, Nat.reduceEqDiff, List.map_cons, List.map_nil, Option.map_some, Option.map_none, List.nil_append, ↓reduceIte, vcu, ↓vcd]
end Go.Proofs.Ytpcbgdgfdfpapaa

namespace Go.Proofs.Ytpcbgdgfdfpapaa
open Go Go.Abs Go.RowKit
variable {w0 : World}

/-- append to a row of integers of one's own that is still wanted; how much room is left -/
theorem r_bothS {b0 : Base} {P : Program} {a : AFrame} {σ : AHeap} {K : AK} {all os : List Oper} {d : Nat} {ty : TypeId} {pos : String} {af : Array Go.Edge} {t u : TypeId} {zv : Value} {b : Nat} {x y : Operand} {g e o len : Nat} {xs sp : List Int} {z : Int} (hE : Elems P t 1 zv b) (hb : b ≤ 64) (hu : ∃ e2, P.underlying u = some (.slice e2))
    (hx : ev a x = .slice (some ⟨g, 0, none⟩) len 1) (hg : σ g = some ⟨ints .i64 (xs ++ sp), false⟩) (hn : xs.length = len) (hy : ev a y = .slice (some ⟨e, o, none⟩) 1 1) (he : IntsAt .i64 σ e o [z]) (hl : len ≤ 4294967296)
    (hk : ∀ g' τ sp', (g' = g ∨ (σ g' = none ∧ τ g = σ g)) → Kept g σ τ → τ g' = some ⟨ints .i64 (xs ++ [z] ++ sp'), false⟩ → 1 + sp'.length ≤ max 1 sp.length → vcR P b0 false all os (fset a d (.slice (some ⟨g', 0, none⟩) (len + 1) 1)) τ K) :
    vcR P b0 false all (⟨some d, .call ⟨.builtin .append, #[x, y], #[t, u]⟩, ty, pos, af, none⟩ :: os) a σ K := by
  obtain ⟨e0, i, a1, a2, a3, a4, a5⟩ := hE.ex
  obtain ⟨e2, hu⟩ := hu
  have hlen : (len * i.size + (ints .i64 [z]).length) * i.bytes ≤ 1099511627776 ∧ len * i.size + (ints .i64 [z]).length ≤ 1099511627776 := by
    rw [a4, a5, ints_length, Nat.mul_one]
    have : (len + 1) * b ≤ 4294967297 * 64 := Nat.mul_le_mul (by omega) hb
    simp only [List.length_singleton]; omega
  have hdiv : (ints .i64 [z]).length / i.size = 1 := by rw [a4, ints_length]; simp
  have hcell : acells i.size σ (ev a y) = some (ints .i64 [z]) := by rw [a4, hy]; exact acells_ints he
  refine r_append_both_at (b := 0) (ys := ints .i64 [z]) a1 hu a2 a3 hcell (by rw [a4]; exact hx) hg rfl (by rw [a4]; simp [ints_length]; omega) (ints_one _ _) hlen ?_ fun h' hh' => ?_
  · rw [hdiv, a4]
    by_cases hfit : 1 ≤ sp.length
    · refine hk g _ (sp.drop 1) (.inl rfl) (Kept.put _ _ _) ?_ (by simp; omega)
      rw [AHeap.upd_same]
      congr 2
      unfold appd
      rw [if_pos (by simp [ints_length]; omega)]
      unfold lwrite
      simp only [ints_length, Nat.zero_add, Nat.mul_one]
      simp [ints, ← hn, List.take_append, List.drop_append, List.drop_eq_nil_of_le]
    · refine hk g _ [] (.inl rfl) (Kept.put _ _ _) ?_ (by simp; omega)
      rw [AHeap.upd_same]
      congr 2
      unfold appd
      rw [if_neg (by simp [ints_length]; omega)]
      simp [ints, ← hn, List.take_append]
  · rw [hdiv, a4]
    have hne : g ≠ h' := by rintro rfl; rw [hg] at hh'; cases hh'
    refine hk h' _ [] (.inr ⟨hh', AHeap.upd_ne _ _ hne⟩) (fun q ob hq e => ?_) ?_ (by simp; omega)
    · rw [AHeap.upd_ne _ _ (by rintro rfl; rw [hh'] at e; cases e)]; exact e
    · rw [AHeap.upd_same]
      congr 2
      simp [ints, ← hn, List.take_append]

theorem index_at (σ : AHeap) (h o : Nat) (xs : List Int) (x : Int) (hv : IntsAt .i64 σ h o xs) (hl : xs.length ≤ 1048576) :
    ACall Try.prog w0 87 [.slice (some ⟨h, o, none⟩) xs.length 1, .int .i64 x] σ fun r σ' => ∃ z : Int, r = .int .i64 z ∧ (0 ≤ z ↔ x ∈ xs) ∧ σ' = σ := by
  refine acall_go mixed Try.func87 rfl good87 fun pr => ?_
  simp -implicitDefEqProofs (disch := omega) only [List.any_cons, List.any_nil, Nat.reduceEqDiff, List.map_cons, List.map_nil, Option.map_some, Option.map_none, List.nil_append, ↓reduceIte, vcu, ↓vcd]
  refine vc_loop_c mixed (by kernel_rfl) [0, 1, 6, 7] (fun m a σ' => ∃ k : Nat, m + k = xs.length ∧ a 8 = .int .i64 k ∧ σ' = σ ∧ ∀ j, j < k → xs.getD j 0 ≠ x) xs.length ⟨0, by simp, rfl, rfl, by simp⟩ ?_
  rintro m a σ' hc ⟨k, hk, h8, rfl, hne⟩
  simp -implicitDefEqProofs (disch := omega) only [List.any_cons, List.any_nil, Nat.reduceEqDiff, List.map_cons, List.map_nil, Option.map_some, Option.map_none, List.nil_append, ↓reduceIte, vcu, ↓vcd] at hc
  obtain ⟨h0, h1, h6, h7, -⟩ := hc
  by_cases hlt : k < xs.length
  · have hx := hv k hlt
    by_cases he : x = xs.getD k 0
    · simp -implicitDefEqProofs (disch := omega) only [List.any_cons, List.any_nil, Nat.reduceEqDiff, List.map_cons, List.map_nil, Option.map_some, Option.map_none, List.nil_append, ↓reduceIte, vcu, ↓vcd, h0, h1, h6, h7, h8, hx, ← he, decide_true]
      refine fin_one Try.results87 ⟨k, ?_, ⟨fun _ => ?_, fun _ => by omega⟩, rfl⟩
      · simp -implicitDefEqProofs (disch := omega) only [List.any_cons, List.any_nil, Nat.reduceEqDiff, List.map_cons, List.map_nil, Option.map_some, Option.map_none, List.nil_append, ↓reduceIte, vcu, ↓vcd]
      · rw [he]; simp [List.getD, hlt]
    · simp -implicitDefEqProofs (disch := omega) only [List.any_cons, List.any_nil, Nat.reduceEqDiff, List.map_cons, List.map_nil, Option.map_some, Option.map_none, List.nil_append, ↓reduceIte, vcu, ↓vcd, h0, h1, h6, h7, h8, hx, he, decide_false]
      refine ⟨?_, m - 1, by omega, k + 1, by omega, by simp, trivial, fun j hj => ?_⟩
      · first | trivial | simp [h0, h1, h6, h7]
      · by_cases e : j = k
        · subst e; exact fun hh => he hh.symm
        · exact hne j (by omega)
  · simp -implicitDefEqProofs (disch := omega) only [List.any_cons, List.any_nil, Nat.reduceEqDiff, List.map_cons, List.map_nil, Option.map_some, Option.map_none, List.nil_append, ↓reduceIte, vcu, ↓vcd, h0, h1, h6, h7, h8]
    refine fin_one Try.results87 ⟨-1, ?_, ⟨fun h => by omega, fun hm => ?_⟩, rfl⟩
    · simp -implicitDefEqProofs (disch := omega) only [List.any_cons, List.any_nil, Nat.reduceEqDiff, List.map_cons, List.map_nil, Option.map_some, Option.map_none, List.nil_append, ↓reduceIte, vcu, ↓vcd]
    · obtain ⟨i, hi, rfl⟩ := List.getElem_of_mem hm
      exact absurd (by simp [List.getD, hi]) (hne i (by omega))
theorem contains_at (σ : AHeap) (h o : Nat) (xs : List Int) (x : Int) (hv : IntsAt .i64 σ h o xs) (hl : xs.length ≤ 1048576) :
    ACall Try.prog w0 80 [.slice (some ⟨h, o, none⟩) xs.length 1, .int .i64 x] σ fun r σ' => r = .bool (decide (x ∈ xs)) ∧ σ' = σ := by
  refine acall_go mixed Try.func80 rfl good80 fun pr => ?_
  simp -implicitDefEqProofs (disch := omega) only [List.any_cons, List.any_nil, Nat.reduceEqDiff, List.map_cons, List.map_nil, Option.map_some, Option.map_none, List.nil_append, ↓reduceIte, vcu, ↓vcd]
  refine (index_at σ h o xs x hv hl).mono ?_
  rintro r _ ⟨z, rfl, hz, rfl⟩
  simp -implicitDefEqProofs (disch := omega) only [List.any_cons, List.any_nil, Nat.reduceEqDiff, List.map_cons, List.map_nil, Option.map_some, Option.map_none, List.nil_append, ↓reduceIte, vcu, ↓vcd, opK_some]
  refine fin_one Try.results80 ⟨?_, rfl⟩
  simp -implicitDefEqProofs (disch := omega) only [List.any_cons, List.any_nil, Nat.reduceEqDiff, List.map_cons, List.map_nil, Option.map_some, Option.map_none, List.nil_append, ↓reduceIte, vcu, ↓vcd]
  rw [decide_eq_decide.2 hz]

/-- the least numbers so far -/
structure Pre (rows : List (List Int)) (ps : List Int) : Prop where
  ok : ∀ k, k < ps.length → 0 ≤ ps.getD k 0 ∧ ps.getD k 0 < rows.length ∧ Edge rows k (ps.getD k 0).toNat ∧ ps.getD k 0 ∉ ps.take k
  least : ∀ k, k < ps.length → ∀ o : Nat, (o : Int) < ps.getD k 0 → ¬ (Edge rows k o ∧ (o : Int) ∉ ps.take k ∧ CanM rows (ps.take k ++ [(o : Int)]))
  can : CanM rows ps
theorem Pre.nil {rows : List (List Int)} (h : CanM rows []) : Pre rows [] := ⟨fun k hk => absurd hk (by simp), fun k hk => absurd hk (by simp), h⟩
theorem getD_app (xs : List Int) (x : Int) (k : Nat) : (xs ++ [x]).getD k 0 = if k = xs.length then x else xs.getD k 0 := by
  simp only [List.getD, List.getElem?_append]
  by_cases h1 : k < xs.length
  · rw [if_pos h1, if_neg (by omega)]
  · rw [if_neg h1]
    by_cases h2 : k = xs.length
    · subst h2; simp
    · rw [if_neg h2, List.getElem?_eq_none (by simp; omega), List.getElem?_eq_none (by omega)]
theorem Pre.push {rows : List (List Int)} {ps : List Int} {o : Nat} (h : Pre rows ps) (ho : o < rows.length) (he : Edge rows ps.length o) (hn : (o : Int) ∉ ps) (hc : CanM rows (ps ++ [(o : Int)]))
    (hl : ∀ o' : Nat, o' < o → ¬ (Edge rows ps.length o' ∧ (o' : Int) ∉ ps ∧ CanM rows (ps ++ [(o' : Int)]))) : Pre rows (ps ++ [(o : Int)]) := by
  have ht : ∀ k, k < ps.length → (ps ++ [(o : Int)]).take k = ps.take k := fun k hk => List.take_append_of_le_length (by omega)
  have ht2 : (ps ++ [(o : Int)]).take ps.length = ps := by simp
  refine ⟨fun k hk => ?_, fun k hk o' ho' => ?_, hc⟩
  · rw [getD_app]
    by_cases e : k = ps.length
    · subst e; rw [if_pos rfl, ht2]; exact ⟨by omega, by omega, by simpa using he, hn⟩
    · have hk' : k < ps.length := by simp at hk; omega
      rw [if_neg e, ht k hk']; exact h.ok k hk'
  · rw [getD_app] at ho'
    by_cases e : k = ps.length
    · subst e; rw [if_pos rfl] at ho'; rw [ht2]; exact hl o' (by omega)
    · have hk' : k < ps.length := by simp at hk; omega
      rw [if_neg e] at ho'; rw [ht k hk']; exact h.least k hk' o' ho'
theorem CanM.next {rows : List (List Int)} {ps : List Int} (h : CanM rows ps) (hl : ps.length < rows.length) : ∃ o, o < rows.length ∧ Edge rows ps.length o ∧ (o : Int) ∉ ps ∧ CanM rows (ps ++ [(o : Int)]) := by
  obtain ⟨p, hp⟩ := h
  refine ⟨p ps.length, hp.lt _ (Nat.le_refl _) hl, hp.edge _ (Nat.le_refl _) hl, hp.new _ (Nat.le_refl _) hl, p, ?_⟩
  have hlen : (ps ++ [((p ps.length : Nat) : Int)]).length = ps.length + 1 := by simp
  refine ⟨fun i h1 h2 => hp.lt i (by omega) h2, fun i h1 h2 => hp.edge i (by omega) h2, fun i h1 h2 hm => ?_, fun i j h1 h2 h3 h4 => hp.inj i j (by omega) h2 (by omega) h4⟩
  rcases List.mem_append.1 hm with hm | hm
  · exact hp.new i (by omega) h2 hm
  · have := List.mem_singleton.1 hm
    have := hp.inj i ps.length (by omega) h2 (Nat.le_refl _) hl (by omega)
    omega

theorem leastMatch_at (σ : AHeap) (th to : Nat) (rows : List (List Int)) (n : Nat) (hv : RowsAt σ th to rows) (hsq : Sq n rows) (hn6 : n ≤ 6) :
    ACall Try.prog w0 67 [.slice (some ⟨th, to, none⟩) n 1] σ fun r σ' => ∃ (v : Value) (b : Bool) (ps : List Int), r = .tuple #[v, .bool b] ∧ Sub σ σ' ∧ OwnI σ σ' v ps ∧ (b = false → ps = [] ∧ ¬ CanM rows []) ∧ (b = true → ps.length = n ∧ Pre rows ps) := by
  refine acall_go mixed Try.func67 rfl good67 fun pr => ?_
  simp -implicitDefEqProofs (disch := omega) only [List.any_cons, List.any_nil, Nat.reduceEqDiff, List.map_cons, List.map_nil, Option.map_some, Option.map_none, List.nil_append, ↓reduceIte, vcu, ↓vcd]
  refine ACall.mono (R := fun r σ' => ∃ b : Bool, r = .bool b ∧ (b = true ↔ CanM rows []) ∧ Sub σ σ') ?_ ?_
  · refine ACall.nil_arg (pre := [_]) (post := []) (z := 1) (by kernel_rfl) fun gz hz => ?_
    refine (canMatch_at _ th to rows n gz 0 [] (hv.sub (sub_upd hz)) hsq hn6 (fun i hi => absurd hi (by simp)) (by simp) (fun j hj => absurd hj (by simp))).mono ?_
    rintro r σ' ⟨b, rfl, h1, h2⟩
    exact ⟨b, rfl, h1, (sub_upd hz).trans h2⟩
  rintro r σ1 ⟨b, rfl, hb, s1⟩
  cases b with
  | false =>
    simp -implicitDefEqProofs (disch := omega) only [List.any_cons, List.any_nil, Nat.reduceEqDiff, List.map_cons, List.map_nil, Option.map_some, Option.map_none, List.nil_append, ↓reduceIte, vcu, ↓vcd, opK_some]
    refine fin_two Try.results67 ⟨.slice none 0 0, false, [], ?_, s1, .inl ⟨rfl, rfl⟩, fun _ => ⟨rfl, fun h => absurd (hb.2 h) (by simp)⟩, fun h => (by cases h)⟩
    simp -implicitDefEqProofs (disch := omega) only [List.any_cons, List.any_nil, Nat.reduceEqDiff, List.map_cons, List.map_nil, Option.map_some, Option.map_none, List.nil_append, ↓reduceIte, vcu, ↓vcd]
  | true =>
    have hcan := hb.1 rfl
    simp -implicitDefEqProofs (disch := omega) only [List.any_cons, List.any_nil, Nat.reduceEqDiff, List.map_cons, List.map_nil, Option.map_some, Option.map_none, List.nil_append, ↓reduceIte, vcu, ↓vcd, opK_some]
    refine r_makeI (kx := .i64) (ky := .i64) (l := 0) (c := n) el30 (by omega) (by simp -implicitDefEqProofs (disch := omega) only [List.any_cons, List.any_nil, Nat.reduceEqDiff, List.map_cons, List.map_nil, Option.map_some, Option.map_none, List.nil_append, ↓reduceIte, vcu, ↓vcd]; rfl) (by simp -implicitDefEqProofs (disch := omega) only [List.any_cons, List.any_nil, Nat.reduceEqDiff, List.map_cons, List.map_nil, Option.map_some, Option.map_none, List.nil_append, ↓reduceIte, vcu, ↓vcd]) (by omega) fun g0 σ2 n2 s2 e2 => ?_
    simp -implicitDefEqProofs (disch := omega) only [List.any_cons, List.any_nil, Nat.reduceEqDiff, List.map_cons, List.map_nil, Option.map_some, Option.map_none, List.nil_append, ↓reduceIte, vcu, ↓vcd]
    refine vc_loop_c mixed (by kernel_rfl) [0, 15, 16] (fun m a σ' => ∃ (g : Nat) (ps sp : List Int), m + ps.length = n ∧ a 17 = .int .i64 ps.length ∧ a 4 = .slice (some ⟨g, 0, none⟩) ps.length 1 ∧ Sub σ σ' ∧ σ g = none ∧ σ' g = some ⟨ints .i64 (ps ++ sp), false⟩ ∧ ps.length + sp.length ≤ n ∧ Pre rows ps) n
      ⟨g0, [], [], by simp, rfl, rfl, s1.trans s2, free_sub s1 n2, e2, by simp, Pre.nil hcan⟩ ?_
    clear e2 n2 s2 s1
    rintro m a σ3 hc ⟨g, ps, sp, hm, h17, h4, hs, fg, eg, hsp, hP⟩
    simp -implicitDefEqProofs (disch := omega) only [List.any_cons, List.any_nil, Nat.reduceEqDiff, List.map_cons, List.map_nil, Option.map_some, Option.map_none, List.nil_append, ↓reduceIte, vcu, ↓vcd] at hc
    obtain ⟨h0, h15, h16, -⟩ := hc
    by_cases hlt : ps.length < n
    · obtain ⟨v, hx, hi⟩ := (hv.sub hs) ps.length (by rw [hsq.1]; exact hlt)
      have hrl := hsq.2 ps.length hlt
      have hen : ∀ o, en rows ps.length o = (rows.getD ps.length []).getD o 0 := fun _ => rfl
      have hrowσ : ∃ rg ro, v = .slice (some ⟨rg, ro, none⟩) n 1 ∧ IntsAt .i64 σ rg ro (rows.getD ps.length []) := by
        obtain ⟨v', hx', hi'⟩ := hv ps.length (by rw [hsq.1]; exact hlt)
        rw [ld_sub hs hx'] at hx
        cases hx
        rcases hi' with ⟨-, e⟩ | ⟨rg, ro, e, hh⟩
        · rw [e] at hrl; simp at hrl; omega
        · rw [hrl] at e; exact ⟨rg, ro, e, hh⟩
      obtain ⟨rg, ro, rfl, hrow⟩ := hrowσ
      clear hi
      generalize rows.getD ps.length [] = row at hrow hrl hen
      simp -implicitDefEqProofs (disch := omega) only [List.any_cons, List.any_nil, Nat.reduceEqDiff, List.map_cons, List.map_nil, Option.map_some, Option.map_none, List.nil_append, ↓reduceIte, vcu, ↓vcd, h0, h15, h16, h17, hx]
      refine vc_loop_c mixed (by kernel_rfl) [0, 4, 15, 16, 17, 21, 22] (fun m2 a2 σ' => ∃ (j : Nat) (sp : List Int), m2 + j = n ∧ a2 23 = .int .i64 j ∧ Sub σ σ' ∧ σ' g = some ⟨ints .i64 (ps ++ sp), false⟩ ∧ ps.length + sp.length ≤ n ∧ ∀ o' : Nat, o' < j → ¬ (Edge rows ps.length o' ∧ (o' : Int) ∉ ps ∧ CanM rows (ps ++ [(o' : Int)]))) n
        ⟨0, sp, by simp, rfl, hs, eg, hsp, fun o' h => absurd h (by omega)⟩ ?_
      clear eg hsp hs hx sp
      rintro m2 a2 σ4 hc2 ⟨j, sp, hj, h23, hs, eg, hsp, hno⟩
      simp -implicitDefEqProofs (disch := omega) only [List.any_cons, List.any_nil, Nat.reduceEqDiff, List.map_cons, List.map_nil, Option.map_some, Option.map_none, List.nil_append, ↓reduceIte, vcu, ↓vcd, h0, h4, h15, h16, h17] at hc2
      obtain ⟨c0, c4, c15, c16, c17, c21, c22, -⟩ := hc2
      have hps : IntsAt .i64 σ4 g 0 ps := by
        have := (intsAt_own eg).take ps.length
        rwa [List.take_append_of_le_length (Nat.le_refl _), List.take_length] at this
      by_cases hjl : j < n
      · have hy := (hrow.sub hs) j (by omega)
        have hEd : Edge rows ps.length j ↔ 0 < row.getD j 0 := by unfold Edge; rw [hen]
        by_cases hpos : 0 < row.getD j 0
        case' neg =>
          simp -implicitDefEqProofs (disch := omega) only [List.any_cons, List.any_nil, Nat.reduceEqDiff, List.map_cons, List.map_nil, Option.map_some, Option.map_none, List.nil_append, ↓reduceIte, vcu, ↓vcd, c0, c4, c15, c16, c17, c21, c22, h23, hy]
          have hskip : ¬ (Edge rows ps.length j ∧ (j : Int) ∉ ps ∧ CanM rows (ps ++ [(j : Int)])) := fun hh => hpos (hEd.1 hh.1)
        case' pos =>
          simp -implicitDefEqProofs (disch := omega) only [List.any_cons, List.any_nil, Nat.reduceEqDiff, List.map_cons, List.map_nil, Option.map_some, Option.map_none, List.nil_append, ↓reduceIte, vcu, ↓vcd, c0, c4, c15, c16, c17, c21, c22, h23, hy]
          refine (contains_at σ4 g 0 ps j hps (by omega)).mono ?_
          rintro r _ ⟨rfl, rfl⟩
          rename_i σ4
          by_cases hin : (j : Int) ∈ ps
          case' pos =>
            rw [decide_eq_true hin]
            simp -implicitDefEqProofs (disch := omega) only [List.any_cons, List.any_nil, Nat.reduceEqDiff, List.map_cons, List.map_nil, Option.map_some, Option.map_none, List.nil_append, ↓reduceIte, vcu, ↓vcd, opK_some, c0, c4, c15, c16, c17, c21, c22, h23]
            have hskip : ¬ (Edge rows ps.length j ∧ (j : Int) ∉ ps ∧ CanM rows (ps ++ [(j : Int)])) := fun hh => hh.2.1 hin
          case' neg =>
            rw [decide_eq_false hin]
            simp -implicitDefEqProofs (disch := omega) only [List.any_cons, List.any_nil, Nat.reduceEqDiff, List.map_cons, List.map_nil, Option.map_some, Option.map_none, List.nil_append, ↓reduceIte, vcu, ↓vcd, opK_some, c0, c4, c15, c16, c17, c21, c22, h23]
            refine r_lit el30 (out := #[.int .i64 j]) (by simp -implicitDefEqProofs (disch := omega) only [List.any_cons, List.any_nil, Nat.reduceEqDiff, List.map_cons, List.map_nil, Option.map_some, Option.map_none, List.nil_append, ↓reduceIte, vcu, ↓vcd]; kernel_rfl) (by kernel_rfl) fun e5 σ5 n5 s5 v5 => ?_
            simp -implicitDefEqProofs (disch := omega) only [List.any_cons, List.any_nil, Nat.reduceEqDiff, List.map_cons, List.map_nil, Option.map_some, Option.map_none, List.nil_append, ↓reduceIte, vcu, ↓vcd]
            have hne5 : g ≠ e5 := ne_of' n5 eg
            have hlen : (ps ++ [(j : Int)]).length = ps.length + 1 := by simp
            refine r_bothS (g := g) (e := e5) (o := 0) (xs := ps) (sp := sp) (z := j) (len := ps.length) el30 (by omega) sl30 (by simp -implicitDefEqProofs (disch := omega) only [List.any_cons, List.any_nil, Nat.reduceEqDiff, List.map_cons, List.map_nil, Option.map_some, Option.map_none, List.nil_append, ↓reduceIte, vcu, ↓vcd, c4]) (s5 _ _ eg) rfl (by simp -implicitDefEqProofs (disch := omega) only [List.any_cons, List.any_nil, Nat.reduceEqDiff, List.map_cons, List.map_nil, Option.map_some, Option.map_none, List.nil_append, ↓reduceIte, vcu, ↓vcd]) (intsAt_own (xs := [(j : Int)]) v5) (by omega) fun g6 σ6 sp6 hg6 k6 e6 l6 => ?_
            simp -implicitDefEqProofs (disch := omega) only [List.any_cons, List.any_nil, Nat.reduceEqDiff, List.map_cons, List.map_nil, Option.map_some, Option.map_none, List.nil_append, ↓reduceIte, vcu, ↓vcd, c0]
            have hs6 : Sub σ σ6 := k6.sub (hs.trans s5) fg
            have eg6 : ∃ sp7 : List Int, σ6 g = some ⟨ints .i64 (ps ++ sp7), false⟩ ∧ ps.length + sp7.length ≤ n := by
              rcases hg6 with rfl | ⟨hn6', he6⟩
              · exact ⟨[(j : Int)] ++ sp6, by rw [← List.append_assoc]; exact e6, by simp; omega⟩
              · exact ⟨sp, by rw [he6]; exact s5 _ _ eg, hsp⟩
            have hgiv : IntsAt .i64 σ6 g6 0 (ps ++ [(j : Int)]) := by
              have := (intsAt_own e6).take (ps.length + 1)
              rwa [List.take_append_of_le_length (by simp), List.take_of_length_le (by simp)] at this
            have hcm := canMatch_at (w0 := w0) σ6 th to rows n g6 0 (ps ++ [(j : Int)]) (hv.sub hs6) hsq hn6 hgiv (by rw [hlen]; omega) (fun i hi => by
              rw [getD_app]
              split
              · omega
              · have hi' : i < ps.length := by rw [hlen] at hi; omega
                have := hP.ok i hi'
                rw [hsq.1] at this
                exact ⟨this.1, this.2.1⟩)
            rw [hlen] at hcm
            refine hcm.mono ?_
            rintro r σ7 ⟨b, rfl, hb7, s7⟩
            obtain ⟨sp7, eg7, hsp7⟩ := eg6
            replace eg7 := s7 _ _ eg7
            cases b with
            | true =>
              simp -implicitDefEqProofs (disch := omega) only [List.any_cons, List.any_nil, Nat.reduceEqDiff, List.map_cons, List.map_nil, Option.map_some, Option.map_none, List.nil_append, ↓reduceIte, vcu, ↓vcd, opK_some, c0, c4, c15, c16, c17, c21, c22, h23]
              refine r_lit el30 (out := #[.int .i64 j]) (by simp -implicitDefEqProofs (disch := omega) only [List.any_cons, List.any_nil, Nat.reduceEqDiff, List.map_cons, List.map_nil, Option.map_some, Option.map_none, List.nil_append, ↓reduceIte, vcu, ↓vcd]; kernel_rfl) (by kernel_rfl) fun e8 σ8 n8 s8 v8 => ?_
              refine r_bothS (g := g) (e := e8) (o := 0) (xs := ps) (sp := sp7) (z := j) (len := ps.length) el30 (by omega) sl30 (by simp -implicitDefEqProofs (disch := omega) only [List.any_cons, List.any_nil, Nat.reduceEqDiff, List.map_cons, List.map_nil, Option.map_some, Option.map_none, List.nil_append, ↓reduceIte, vcu, ↓vcd, c4]) (s8 _ _ eg7) rfl (by simp -implicitDefEqProofs (disch := omega) only [List.any_cons, List.any_nil, Nat.reduceEqDiff, List.map_cons, List.map_nil, Option.map_some, Option.map_none, List.nil_append, ↓reduceIte, vcu, ↓vcd]) (intsAt_own (xs := [(j : Int)]) v8) (by omega) fun g9 σ9 sp9 hg9 k9 e9 l9 => ?_
              simp -implicitDefEqProofs (disch := omega) only [List.any_cons, List.any_nil, Nat.reduceEqDiff, List.map_cons, List.map_nil, Option.map_some, Option.map_none, List.nil_append, ↓reduceIte, vcu, ↓vcd, c17]
              have hs9 : Sub σ σ9 := k9.sub ((hs6.trans s7).trans s8) fg
              have fg9 : σ g9 = none := by
                rcases hg9 with rfl | ⟨hn9, -⟩
                · exact fg
                · exact free_sub ((hs6.trans s7).trans s8) hn9
              refine ⟨?_, m - 1, by omega, g9, ps ++ [(j : Int)], sp9, by simp; omega, by simp, by simp, hs9, fg9, e9, by simp; omega, ?_⟩
              · simp [c0, c15, c16, h0, h15, h16]
              · exact hP.push (by rw [hsq.1]; exact hjl) (hEd.2 hpos) hin (hb7.1 rfl) hno
            | false =>
              simp -implicitDefEqProofs (disch := omega) only [List.any_cons, List.any_nil, Nat.reduceEqDiff, List.map_cons, List.map_nil, Option.map_some, Option.map_none, List.nil_append, ↓reduceIte, vcu, ↓vcd, opK_some, c0, c4, c15, c16, c17, c21, c22, h23]
              have hskip : ¬ (Edge rows ps.length j ∧ (j : Int) ∉ ps ∧ CanM rows (ps ++ [(j : Int)])) := fun hh => absurd (hb7.2 hh.2.2) (by simp)
              replace hs := hs6.trans s7
              replace eg := eg7
              replace hsp := hsp7
              refine ⟨?_, m2 - 1, by omega, j + 1, _, by omega, by simp, hs, eg, hsp, fun o' ho' => ?_⟩
              · first | trivial | simp [c0, c4, c15, c16, c17, c21, c22, h0, h4, h15, h16, h17]
              · by_cases e : o' = j
                · subst e; exact hskip
                · exact hno o' (by omega)
        all_goals
          refine ⟨?_, m2 - 1, by omega, j + 1, _, by omega, by simp, hs, eg, hsp, fun o' ho' => ?_⟩
          · first | trivial | simp [c0, c4, c15, c16, c17, c21, c22, h0, h4, h15, h16, h17]
          · by_cases e : o' = j
            · subst e; exact hskip
            · exact hno o' (by omega)
      · obtain ⟨o, h1, h2, h3, h4'⟩ := hP.can.next (by rw [hsq.1]; exact hlt)
        rw [hsq.1] at h1
        exact absurd ⟨h2, h3, h4'⟩ (hno o (by omega))
    · simp -implicitDefEqProofs (disch := omega) only [List.any_cons, List.any_nil, Nat.reduceEqDiff, List.map_cons, List.map_nil, Option.map_some, Option.map_none, List.nil_append, ↓reduceIte, vcu, ↓vcd, h0, h15, h16, h17, h4]
      have hl : ps.length = n := by omega
      have hsp0 : sp = [] := List.eq_nil_of_length_eq_zero (by omega)
      subst hsp0
      rw [List.append_nil] at eg
      refine fin_two Try.results67 ⟨_, true, ps, ?_, hs, .inr ⟨g, rfl, eg, fg⟩, fun h => (by cases h), fun _ => ⟨hl, hP⟩⟩
      simp -implicitDefEqProofs (disch := omega) only [List.any_cons, List.any_nil, Nat.reduceEqDiff, List.map_cons, List.map_nil, Option.map_some, Option.map_none, List.nil_append, ↓reduceIte, vcu, ↓vcd, h4]
end Go.Proofs.Ytpcbgdgfdfpapaa

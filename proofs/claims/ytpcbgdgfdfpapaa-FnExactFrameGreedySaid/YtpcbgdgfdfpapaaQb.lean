/- The first rank that covers is the least matching. -/
import Derived.Test.YtpcbgdgfdfpapaaQK10
set_option linter.unusedSimpArgs false
set_option linter.unusedVariables false
namespace Go.Proofs.Ytpcbgdgfdfpapaa
open Go Go.Abs Go.RowKit
variable {w0 : World}

theorem of_rank {xs : List Int} (hV : Valid xs) : rankV xs = (rankI xs xs.length : Int) ∧ OfOk xs.length (rankI xs xs.length) ∧ ofV xs.length (rankI xs xs.length) = xs := by
  have hOK := valid_all rank_all hV
  unfold rankOK at hOK
  rw [Bool.and_eq_true] at hOK
  have h1 : rankI xs xs.length < fac xs.length := by simpa [Nat.blt_eq] using hOK.1
  have h2 : ofT xs.length (idl xs.length) (rankI xs xs.length) [] = xs := by simpa using hOK.2
  have h6 := hV.2
  have ho : OfOk xs.length (rankI xs xs.length) := ⟨by omega, by omega, by omega, by simpa using h1⟩
  refine ⟨by unfold rankV; rw [if_pos hV], ho, ?_⟩
  unfold ofV
  rw [if_pos ho]
  simp only [Int.toNat_natCast]
  rw [ofT_eq xs.length _ xs.length 0 (by omega)]
  exact h2

theorem of_all {n r : Nat} (hn : n ≤ 6) (hr : r < fac n) : ofOK n r = true := by
  by_cases h : n = 6
  · subst h
    exact List.all_eq_true.1 of_all6 r (List.mem_range.2 hr)
  · exact List.all_eq_true.1 (List.all_eq_true.1 of_all5 n (by simp; omega)) r (List.mem_range.2 hr)
theorem lexB_at : ∀ {xs ys : List Int}, lexB xs ys = true → ∀ i, i < ys.length → (∀ j, j < i → ys.getD j 0 = xs.getD j 0) → ys.getD i 0 ≠ xs.getD i 0 → xs.getD i 0 < ys.getD i 0
  | [], _, h, _, _, _, _ => by simp [lexB] at h
  | _ :: _, [], h, _, hi, _, _ => by simp at hi
  | x :: xs, y :: ys, h, i, hi, he, hne => by
    by_cases e : x = y
    · subst e
      have h' : lexB xs ys = true := by simpa [lexB] using h
      cases i with
      | zero => exact absurd rfl hne
      | succ i => exact lexB_at h' i (by simpa using hi) (fun j hj => by simpa using he (j + 1) (by omega)) (by simpa using hne)
    · have h' : x < y := by simpa [lexB, e] using h
      cases i with
      | zero => simpa using h'
      | succ i => exact absurd (by simpa using (he 0 (by omega)).symm) e
theorem lexB_ne : ∀ {xs ys : List Int}, lexB xs ys = true → xs ≠ ys
  | [], _, h, _ => by simp [lexB] at h
  | _ :: _, [], _, e => by simp at e
  | x :: xs, y :: ys, h, e => by
    obtain ⟨rfl, rfl⟩ := List.cons.inj e
    have h' : lexB xs xs = true := by simpa [lexB] using h
    exact lexB_ne h' rfl
theorem ofV_eq {n r : Nat} (h : OfOk n r) : ofV n r = ofL n r := by
  unfold ofV ofL
  rw [if_pos h]
  simp only [Int.toNat_natCast]
  rw [ofT_eq n _ n 0 (by omega)]
  rfl
theorem of_ok {n r : Nat} (h : OfOk n r) : Valid (ofV n r) ∧ rankV (ofV n r) = r ∧ (ofV n r).length = n ∧ (OfOk n ((r : Int) + 1) → lexB (ofV n r) (ofV n ((r : Int) + 1)) = true) := by
  have hn : n ≤ 6 := by have := h.2.1; omega
  have hr : r < fac n := by have := h.2.2.2; simp only [Int.toNat_natCast] at this; omega
  have hOK := of_all hn hr
  rw [ofV_eq h]
  unfold ofOK at hOK
  rw [Bool.and_eq_true, Bool.and_eq_true, Bool.and_eq_true] at hOK
  obtain ⟨h1, h2, h3, h4⟩ := hOK
  have h1 := of_decide_eq_true h1
  have h2 := Nat.eq_of_beq_eq_true h2
  have h3 := Nat.eq_of_beq_eq_true h3
  refine ⟨h1, by unfold rankV; rw [if_pos h1, h2], h3, fun hs => ?_⟩
  have es : ((r : Int) + 1) = ((r + 1 : Nat) : Int) := by omega
  rw [es] at hs ⊢
  rw [ofV_eq hs]
  have hr2 : r + 1 < fac n := by have := hs.2.2.2; simp only [Int.toNat_natCast] at this; omega
  rw [Bool.or_eq_true] at h4
  rcases h4 with h4 | h4
  · have := Nat.le_of_ble_eq_true h4; omega
  · exact h4


theorem lexB_trans : ∀ {xs ys zs : List Int}, lexB xs ys = true → lexB ys zs = true → lexB xs zs = true
  | [], _, _, h, _ => by simp [lexB] at h
  | _ :: _, [], _, h, _ => by simp [lexB] at h
  | _ :: _, _ :: _, [], _, h => by simp [lexB] at h
  | x :: xs, y :: ys, z :: zs, h1, h2 => by
    by_cases e1 : x = y
    · subst e1
      by_cases e2 : x = z
      · subst e2
        have a : lexB xs ys = true := by simpa [lexB] using h1
        have b : lexB ys zs = true := by simpa [lexB] using h2
        simpa [lexB] using lexB_trans a b
      · have b : x < z := by simpa [lexB, e2] using h2
        simpa [lexB, e2] using b
    · have a : x < y := by simpa [lexB, e1] using h1
      by_cases e2 : y = z
      · subst e2; simpa [lexB, e1] using a
      · have b : y < z := by simpa [lexB, e2] using h2
        have e3 : ¬ x = z := by omega
        have c : x < z := by omega
        simpa [lexB, e3] using c
theorem lexB_of : ∀ {xs ys : List Int} (k : Nat), k < xs.length → k < ys.length → (∀ j, j < k → xs.getD j 0 = ys.getD j 0) → xs.getD k 0 < ys.getD k 0 → lexB xs ys = true
  | [], _, _, h, _, _, _ => by simp at h
  | _ :: _, [], _, _, h, _, _ => by simp at h
  | x :: xs, y :: ys, 0, _, _, _, h => by
    have a : x < y := by simpa using h
    have e : ¬ x = y := by omega
    simpa [lexB, e] using a
  | x :: xs, y :: ys, k + 1, h1, h2, h3, h4 => by
    have e : x = y := by simpa using h3 0 (by omega)
    subst e
    have := lexB_of (xs := xs) (ys := ys) k (by simpa using h1) (by simpa using h2) (fun j hj => by simpa using h3 (j + 1) (by omega)) (by simpa using h4)
    simpa [lexB] using this
theorem of_mono {n : Nat} {r : Nat} (h : OfOk n r) : ∀ {r' : Nat}, r < r' → OfOk n r' → lexB (ofV n r) (ofV n r') = true
  | 0, h1, _ => by omega
  | r' + 1, h1, h2 => by
    have es : (((r' + 1 : Nat)) : Int) = (r' : Int) + 1 := by omega
    rw [es] at h2 ⊢
    have hr' : OfOk n r' := ⟨h2.1, h2.2.1, by omega, by have := h2.2.2.2; omega⟩
    have hstep := (of_ok hr').2.2.2 h2
    by_cases e : r = r'
    · subst e; exact hstep
    · exact lexB_trans (of_mono h (r' := r') (by omega) hr') hstep

/-- a list of numbers, by a function -/
def qsOf (n : Nat) (f : Nat → Nat) : List Int := (List.range n).map fun i => ((f i : Nat) : Int)
theorem qsOf_length (n : Nat) (f : Nat → Nat) : (qsOf n f).length = n := by simp [qsOf]
theorem qsOf_getD {n : Nat} {f : Nat → Nat} {i : Nat} (h : i < n) : (qsOf n f).getD i 0 = (f i : Nat) := by simp [qsOf, List.getD, h]
theorem qsOf_valid {n : Nat} {f : Nat → Nat} (hn : n ≤ 6) (h1 : ∀ i, i < n → f i < n) (h2 : ∀ i j, i < n → j < n → f i = f j → i = j) : Valid (qsOf n f) := by
  refine ⟨⟨fun x hx => ?_, ?_⟩, by rw [qsOf_length]; exact hn⟩
  · obtain ⟨i, hi, rfl⟩ := List.mem_map.1 hx
    have := h1 i (List.mem_range.1 hi)
    rw [qsOf_length]; omega
  · unfold qsOf
    rw [List.nodup_iff_pairwise_ne, List.pairwise_map]
    have hnd := List.nodup_range (n := n)
    rw [List.nodup_iff_pairwise_ne] at hnd
    exact hnd.imp_of_mem fun {i j} hi hj hne he => hne (h2 i j (List.mem_range.1 hi) (List.mem_range.1 hj) (by omega))
theorem mem_take {xs : List Int} {k : Nat} (hk : k ≤ xs.length) (x : Int) : x ∈ xs.take k ↔ ∃ i, i < k ∧ xs.getD i 0 = x := by
  rw [List.mem_take_iff_getElem]
  constructor
  · rintro ⟨i, hi, he⟩
    exact ⟨i, by omega, by rw [getD_lt (by omega)]; exact he⟩
  · rintro ⟨i, hi, he⟩
    exact ⟨i, by omega, by rw [getD_lt (by omega)] at he; exact he⟩

/-- a list uses only what there is -/
def Cov (rows : List (List Int)) (p : List Int) : Prop := ∀ k, k < rows.length → Edge rows k (p.getD k 0).toNat
/-- what MatchFirst gives -/
def MatchF (rows : List (List Int)) (ps : List Int) (b : Bool) : Prop :=
  (¬ TV rows ∧ ps = [] ∧ b = false) ∨ (TV rows ∧ ((b = false ∧ ps = [] ∧ ¬ CanM rows []) ∨ (b = true ∧ ps.length = rows.length ∧ Pre rows ps)))
theorem Pre.ext {rows : List (List Int)} {ps : List Int} (h : Pre rows ps) (hl : ps.length = rows.length) (m : Nat) (hm : m ≤ ps.length) : CanM rows (ps.take m) := by
  have hlen : (ps.take m).length = m := by rw [List.length_take]; omega
  have hinj : ∀ i j, i < j → j < ps.length → ps.getD i 0 ≠ ps.getD j 0 := fun i j hi hj he => (h.ok j hj).2.2.2 ((mem_take (by omega) _).2 ⟨i, hi, he⟩)
  refine ⟨fun i => (ps.getD i 0).toNat, fun i h1 h2 => ?_, fun i h1 h2 => ?_, fun i h1 h2 hm' => ?_, fun i j h1 h2 h3 h4 he => ?_⟩
  · have := h.ok i (by omega); omega
  · exact (h.ok i (by omega)).2.2.1
  · obtain ⟨j, hj, he⟩ := (mem_take (by omega) _).1 hm'
    have := h.ok i (by omega)
    exact hinj j i (by omega) (by omega) (by omega)
  · have a := h.ok i (by omega)
    have b := h.ok j (by omega)
    rcases Nat.lt_trichotomy i j with hlt | heq | hlt
    · exact absurd (by omega) (hinj i j hlt (by omega))
    · exact heq
    · exact absurd (by omega) (hinj j i hlt (by omega))
theorem take_one {xs : List Int} {k : Nat} (h : k < xs.length) : xs.take (k + 1) = xs.take k ++ [xs.getD k 0] := take_succ' h
theorem Pre.uniq {rows : List (List Int)} {ps qs : List Int} (h1 : Pre rows ps) (h2 : Pre rows qs) (l1 : ps.length = rows.length) (l2 : qs.length = rows.length) : ps = qs := by
  have key : ∀ k, k ≤ rows.length → ps.take k = qs.take k := by
    intro k
    induction k with
    | zero => intro _; simp
    | succ k ih =>
      intro hk
      have ht := ih (by omega)
      rw [take_one (by omega), take_one (by omega), ht]
      have a := h1.ok k (by omega)
      have b := h2.ok k (by omega)
      have less : ∀ (ps qs : List Int), Pre rows ps → Pre rows qs → ps.length = rows.length → qs.length = rows.length → ps.take k = qs.take k → ¬ ps.getD k 0 < qs.getD k 0 := by
        intro ps qs h1 h2 l1 l2 ht hlt
        have a := h1.ok k (by omega)
        have e : (((ps.getD k 0).toNat : Nat) : Int) = ps.getD k 0 := by omega
        refine h2.least k (by omega) (ps.getD k 0).toNat (by omega) ⟨a.2.2.1, ?_, ?_⟩
        · rw [e, ← ht]; exact a.2.2.2
        · rw [e, ← ht, ← take_one (by omega)]; exact h1.ext l1 _ (by omega)
      have c1 := less ps qs h1 h2 l1 l2 ht
      have c2 := less qs ps h2 h1 l2 l1 ht.symm
      have e : ps.getD k 0 = qs.getD k 0 := by omega
      rw [e]
  have := key rows.length (Nat.le_refl _)
  rwa [List.take_of_length_le (by omega), List.take_of_length_le (by omega)] at this
theorem MatchF.uniq {rows : List (List Int)} {ps qs : List Int} {b c : Bool} (h1 : MatchF rows ps b) (h2 : MatchF rows qs c) : ps = qs ∧ b = c := by
  rcases h1 with ⟨a1, a2, a3⟩ | ⟨a1, h1⟩
  · rcases h2 with ⟨b1, b2, b3⟩ | ⟨b1, h2⟩
    · exact ⟨by rw [a2, b2], by rw [a3, b3]⟩
    · exact absurd b1 a1
  · rcases h2 with ⟨b1, b2, b3⟩ | ⟨b1, h2⟩
    · exact absurd a1 b1
    · rcases h1 with ⟨a2, a3, a4⟩ | ⟨a2, a3, a4⟩
      · rcases h2 with ⟨b2, b3, b4⟩ | ⟨b2, b3, b4⟩
        · exact ⟨by rw [a3, b3], by rw [a2, b2]⟩
        · exact absurd (by simpa using b4.ext b3 0 (by omega)) a4
      · rcases h2 with ⟨b2, b3, b4⟩ | ⟨b2, b3, b4⟩
        · exact absurd (by simpa using a4.ext a3 0 (by omega)) b4
        · exact ⟨a4.uniq b4 a3 b3, by rw [a2, b2]⟩
/-- the first list that covers is made number by number -/
theorem first_pre {rows : List (List Int)} {r : Nat} (hn : rows.length ≤ 6) (ho : OfOk rows.length r) (hc : Cov rows (ofV rows.length r)) (hno : ∀ r', r' < r → ¬ Cov rows (ofV rows.length r')) : Pre rows (ofV rows.length r) := by
  obtain ⟨hV, -, hl, -⟩ := of_ok ho
  generalize hps : ofV rows.length r = ps at *
  have hat : ∀ k, k < rows.length → 0 ≤ ps.getD k 0 ∧ ps.getD k 0 < rows.length := fun k hk => by
    have := hV.1.1 (ps.getD k 0) (by simp [List.getD, hl, hk]); rw [hl] at this; exact this
  have hnd : ∀ k, k < rows.length → ps.getD k 0 ∉ ps.take k := fun k hk => nodup_take.1 hV.1.2 k (by omega)
  refine ⟨fun k hk => ?_, fun k hk o hok => ?_, ⟨fun i => i, fun i h1 h2 => by omega, fun i h1 h2 => by omega, fun i h1 h2 => by omega, fun i j h1 h2 => by omega⟩⟩
  · rw [hl] at hk
    exact ⟨(hat k hk).1, (hat k hk).2, hc k hk, hnd k hk⟩
  · rw [hl] at hk
    rintro ⟨he, hnew, p, hp⟩
    have hlen : (ps.take k ++ [(o : Int)]).length = k + 1 := by rw [List.length_append, List.length_take]; simp; omega
    have hpn : ∀ i, k < i → i < rows.length → p i ≠ o ∧ ∀ j, j < k → ps.getD j 0 ≠ p i := fun i h1 h2 => by
      have := hp.new i (by omega) h2
      rw [List.mem_append, List.mem_singleton] at this
      refine ⟨fun e => this (.inr (by omega)), fun j hj e => this (.inl ((mem_take (by omega) _).2 ⟨j, hj, e⟩))⟩
    have hon : ∀ j, j < k → ps.getD j 0 ≠ o := fun j hj e => hnew ((mem_take (by omega) _).2 ⟨j, hj, e⟩)
    have hpp : ∀ i j, i < j → j < rows.length → ps.getD i 0 ≠ ps.getD j 0 := fun i j hi hj e => hnd j hj ((mem_take (by omega) _).2 ⟨i, hi, e⟩)
    have hok2 := (hat k hk).2
    generalize hf : (fun i => if i < k then (ps.getD i 0).toNat else if i = k then o else p i) = f
    have f1 : ∀ i, i < k → f i = (ps.getD i 0).toNat := fun i hi => by rw [← hf]; simp [hi]
    have f2 : f k = o := by rw [← hf]; simp
    have f3 : ∀ i, k < i → f i = p i := fun i hi => by rw [← hf]; dsimp only; rw [if_neg (by omega), if_neg (by omega)]
    have hlt : ∀ i, i < rows.length → f i < rows.length := fun i hi => by
      rcases Nat.lt_trichotomy i k with h | h | h
      · rw [f1 i h]; have := hat i hi; omega
      · subst h; rw [f2]; omega
      · rw [f3 i h]; exact hp.lt i (by omega) hi
    have hinj2 : ∀ i j, i < j → j < rows.length → f i ≠ f j := fun i j hij hj => by
      rcases Nat.lt_trichotomy i k with h | h | h
      · rw [f1 i h]
        have hi := hat i (by omega)
        rcases Nat.lt_trichotomy j k with h' | h' | h'
        · rw [f1 j h']
          have := hat j hj
          have := hpp i j hij hj
          omega
        · subst h'; rw [f2]; have := hon i h; omega
        · rw [f3 j h']; have := (hpn j h' hj).2 i h; omega
      · subst h; rw [f2, f3 j hij]; have := (hpn j hij hj).1; omega
      · rw [f3 i h, f3 j (by omega)]
        intro e
        have := hp.inj i j (by omega) (by omega) (by omega) hj e
        omega
    have hQ := qsOf_valid hn hlt (fun i j hi hj e => by
      rcases Nat.lt_trichotomy i j with h | h | h
      · exact absurd e (hinj2 i j h hj)
      · exact h
      · exact absurd e.symm (hinj2 j i h hi))
    have hcov : Cov rows (qsOf rows.length f) := fun i hi => by
      rw [qsOf_getD hi, Int.toNat_natCast]
      rcases Nat.lt_trichotomy i k with h | h | h
      · rw [f1 i h]; exact hc i hi
      · subst h; rw [f2]; exact he
      · rw [f3 i h]; exact hp.edge i (by omega) hi
    have hlex : lexB (qsOf rows.length f) ps = true := lexB_of k (by rw [qsOf_length]; exact hk) (by omega) (fun j hj => by
      rw [qsOf_getD (by omega), f1 j hj]; have := hat j (by omega); omega) (by rw [qsOf_getD hk, f2]; exact hok)
    obtain ⟨q1, q2, q3⟩ := of_rank hQ
    rw [qsOf_length] at q2 q3
    rcases Nat.lt_trichotomy (rankI (qsOf rows.length f) rows.length) r with h | h | h
    · exact hno _ h (by rw [q3]; exact hcov)
    · rw [h, hps] at q3
      exact lexB_ne hlex q3.symm
    · have := of_mono ho h q2
      rw [q3, hps] at this
      exact lexB_ne (lexB_trans this hlex) rfl
theorem none_can {rows : List (List Int)} (hn : rows.length ≤ 6) (hno : ∀ r', r' < fac rows.length → ¬ Cov rows (ofV rows.length r')) : ¬ CanM rows [] := by
  rintro ⟨p, hp⟩
  have hQ := qsOf_valid (f := p) hn (fun i hi => hp.lt i (by simp) hi) (fun i j hi hj e => hp.inj i j (by simp) hi (by simp) hj e)
  obtain ⟨q1, q2, q3⟩ := of_rank hQ
  rw [qsOf_length] at q2 q3
  refine hno (rankI (qsOf rows.length p) rows.length) (by have := q2.2.2.2; simp only [Int.toNat_natCast] at this; omega) (by rw [q3]; exact fun i hi => by rw [qsOf_getD hi, Int.toNat_natCast]; exact hp.edge i (by simp) hi)
end Go.Proofs.Ytpcbgdgfdfpapaa

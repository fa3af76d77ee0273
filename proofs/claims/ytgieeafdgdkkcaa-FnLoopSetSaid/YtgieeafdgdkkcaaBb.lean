/- The loop network: what it realises, and how it is set. -/
import Derived.Test.YtgieeafdgdkkcaaBa
set_option linter.unusedSimpArgs false
set_option linter.unusedVariables false
set_option linter.unusedSectionVars false
namespace Go.Ban

/-- each of the numbers below H is reached once -/
def PermF (H : Nat) (f : Nat → Nat) : Prop := (∀ i, i < H → f i < H) ∧ ∀ i j, i < H → j < H → f i = f j → i = j
theorem PermF.congr {H : Nat} {f f' : Nat → Nat} (h : PermF H f) (e : ∀ i, i < H → f' i = f i) : PermF H f' :=
  ⟨fun i hi => by rw [e i hi]; exact h.1 i hi, fun i j hi hj he => h.2 i j hi hj (by rw [← e i hi, ← e j hj]; exact he)⟩

/-- through which network a line goes -/
def side (first : Nat → Bool) (k : Nat) : Bool := decide (k % 2 = 1) != first (k / 2)
def comb (first last : Nat → Bool) (up low : Nat → Nat) (k : Nat) : Nat :=
  2 * (bif side first k then low (k / 2) else up (k / 2)) + (bif side first k != last (bif side first k then low (k / 2) else up (k / 2)) then 1 else 0)
theorem side_tt (first : Nat → Bool) (i : Nat) : side first (2 * i + (first i).toNat) = false ∧ (2 * i + (first i).toNat) / 2 = i := by
  have h1 : (2 * i + 1) / 2 = i := by omega
  have h2 : (2 * i + 1) % 2 = 1 := by omega
  have h3 : 2 * i / 2 = i := by omega
  have h4 : 2 * i % 2 = 0 := by omega
  cases h : first i <;> simp [side, h, h1, h2, h3, h4]
theorem side_ff (first : Nat → Bool) (i : Nat) : side first (2 * i + (!first i).toNat) = true ∧ (2 * i + (!first i).toNat) / 2 = i := by
  have h1 : (2 * i + 1) / 2 = i := by omega
  have h2 : (2 * i + 1) % 2 = 1 := by omega
  have h3 : 2 * i / 2 = i := by omega
  have h4 : 2 * i % 2 = 0 := by omega
  cases h : first i <;> simp [side, h, h1, h2, h3, h4]
theorem side_odd {first : Nat → Bool} {k : Nat} : decide (k % 2 = 1) = (side first k != first (k / 2)) := by
  unfold side; cases decide (k % 2 = 1) <;> cases first (k / 2) <;> rfl
theorem k_of_side (first : Nat → Bool) (k : Nat) : k = 2 * (k / 2) + (side first k != first (k / 2)).toNat := by
  rw [← side_odd]
  by_cases h : k % 2 = 1
  · rw [decide_eq_true h]; show _ = 2 * (k / 2) + 1; omega
  · rw [decide_eq_false h]; show _ = 2 * (k / 2) + 0; omega
theorem comb_congr {H : Nat} {first first' last last' : Nat → Bool} {up up' low low' : Nat → Nat} (hu : ∀ i, i < H → up i < H) (hl : ∀ i, i < H → low i < H) (e1 : ∀ i, i < H → first' i = first i) (e2 : ∀ i, i < H → last' i = last i)
    (e3 : ∀ i, i < H → up' i = up i) (e4 : ∀ i, i < H → low' i = low i) {k : Nat} (hk : k < 2 * H) : comb first' last' up' low' k = comb first last up low k := by
  have h2 : k / 2 < H := by omega
  have es : side first' k = side first k := by unfold side; rw [e1 _ h2]
  unfold comb
  rw [es, e3 _ h2, e4 _ h2]
  have ht : (bif side first k then low (k / 2) else up (k / 2)) < H := by cases side first k <;> simp [hu _ h2, hl _ h2]
  rw [e2 _ ht]
theorem comb_perm {H : Nat} {first last : Nat → Bool} {up low : Nat → Nat} (hu : PermF H up) (hl : PermF H low) : PermF (2 * H) (comb first last up low) := by
  have tl : ∀ k, k < 2 * H → (bif side first k then low (k / 2) else up (k / 2)) < H := fun k hk => by
    cases side first k
    · exact hu.1 _ (by omega)
    · exact hl.1 _ (by omega)
  refine ⟨fun k hk => ?_, fun k j hk hj e => ?_⟩
  · have := tl k hk
    unfold comb
    generalize (bif side first k then low (k / 2) else up (k / 2)) = t at *
    cases (side first k != last t) <;> simp <;> omega
  · have e1 : (bif side first k then low (k / 2) else up (k / 2)) = (bif side first j then low (j / 2) else up (j / 2)) := by
      unfold comb at e
      generalize (bif side first k then low (k / 2) else up (k / 2)) = t at *
      generalize (bif side first j then low (j / 2) else up (j / 2)) = u at *
      cases h1 : (side first k != last t) <;> cases h2 : (side first j != last u) <;> simp [h1, h2] at e <;> omega
    have e2 : side first k = side first j := by
      unfold comb at e
      rw [e1] at e
      generalize (bif side first j then low (j / 2) else up (j / 2)) = u at *
      cases h1 : side first k <;> cases h2 : side first j <;> cases h3 : last u <;> simp [h1, h2, h3] at e ⊢
    have e3 : k / 2 = j / 2 := by
      rw [e2] at e1
      cases h : side first j
      · rw [h] at e1; exact hu.2 _ _ (by omega) (by omega) e1
      · rw [h] at e1; exact hl.2 _ _ (by omega) (by omega) e1
    rw [k_of_side first k, k_of_side first j, e2, e3]

section flips
variable {H : Nat} {first first' last last' : Nat → Bool} {up up' low low' : Nat → Nat}
theorem flip_first {i : Nat} (hi : i < H) (hu : up i < H) (hl : low i < H) (e1 : first' i = !first i) (e2 : ∀ j, j < H → last' j = last j) (e3 : up' i = up i) (e4 : low' i = low i) :
    ∃ k, k < 2 * H ∧ comb first' last' up' low' k ≠ comb first last up low k := by
  refine ⟨2 * i, by omega, ?_⟩
  have h3 : 2 * i / 2 = i := by omega
  have h4 : decide (2 * i % 2 = 1) = false := by simp
  unfold comb side
  rw [h3, h4, e1, e3, e4]
  cases first i
  · simp [e2 _ hl]
    intro e
    have : low i = up i := by cases h1 : last (low i) <;> cases h2 : last (up i) <;> simp [h1, h2] at e <;> omega
    rw [this] at e
    cases h2 : last (up i) <;> simp [h2] at e
  · simp [e2 _ hu]
    intro e
    have : low i = up i := by cases h1 : last (low i) <;> cases h2 : last (up i) <;> simp [h1, h2] at e <;> omega
    rw [this] at e
    cases h2 : last (up i) <;> simp [h2] at e
theorem flip_last {j : Nat} (hj : j < H) (hu : PermF H up) (e1 : ∀ i, i < H → first' i = first i) (e2 : last' j = !last j) (e3 : ∀ i, i < H → up' i = up i) :
    ∃ k, k < 2 * H ∧ comb first' last' up' low' k ≠ comb first last up low k := by
  obtain ⟨i, hi, e⟩ := onto_of_inj H up hu.1 hu.2 j hj
  have ht : (first i).toNat ≤ 1 := by cases first i <;> simp
  obtain ⟨s1, s2⟩ := side_tt first i
  obtain ⟨s3, s4⟩ := side_tt first' i
  rw [e1 i hi] at s3
  refine ⟨2 * i + (first i).toNat, by omega, ?_⟩
  unfold comb
  rw [s1, s3, s2]
  simp only [cond_false, e3 i hi, e, e2]
  cases last j <;> simp
theorem flip_up {i : Nat} (hi : i < H) (e1 : first' i = first i) (e3 : up' i ≠ up i) :
    ∃ k, k < 2 * H ∧ comb first' last' up' low' k ≠ comb first last up low k := by
  have ht : (first i).toNat ≤ 1 := by cases first i <;> simp
  obtain ⟨s1, s2⟩ := side_tt first i
  obtain ⟨s3, s4⟩ := side_tt first' i
  rw [e1] at s3
  refine ⟨2 * i + (first i).toNat, by omega, fun e => e3 ?_⟩
  unfold comb at e
  rw [s1, s3, s2] at e
  simp only [cond_false] at e
  cases h1 : (false != last' (up' i)) <;> cases h2 : (false != last (up i)) <;> simp [h1, h2] at e <;> omega
theorem flip_low {i : Nat} (hi : i < H) (e1 : first' i = first i) (e3 : low' i ≠ low i) :
    ∃ k, k < 2 * H ∧ comb first' last' up' low' k ≠ comb first last up low k := by
  have ht : (!first i).toNat ≤ 1 := by cases first i <;> simp
  obtain ⟨s1, s2⟩ := side_ff first i
  obtain ⟨s3, s4⟩ := side_ff first' i
  rw [e1] at s3
  refine ⟨2 * i + (!first i).toNat, by omega, fun e => e3 ?_⟩
  unfold comb at e
  rw [s1, s3, s2] at e
  simp only [cond_true] at e
  cases h1 : (true != last' (low' i)) <;> cases h2 : (true != last (low i)) <;> simp [h1, h2] at e <;> omega
end flips

/-- how many switches -/
def many : Nat → Nat
  | 0 => 0
  | 1 => 1
  | l + 2 => 2 ^ (l + 2) + 2 * many (l + 1)
/-- what settings realise -/
def lr : Nat → (Nat → Bool) → Nat → Nat
  | 0, _, k => k
  | 1, c, k => bif c 0 then 1 - k else k
  | l + 2, c, k => comb c (fun j => c (2 ^ (l + 1) + 2 * many (l + 1) + j)) (lr (l + 1) fun j => c (2 ^ (l + 1) + j)) (lr (l + 1) fun j => c (2 ^ (l + 1) + many (l + 1) + j)) k
theorem pow_two' (l : Nat) : 2 ^ (l + 2) = 2 * 2 ^ (l + 1) := by rw [Nat.pow_succ]; omega
theorem lr_perm : ∀ (l : Nat) (c : Nat → Bool), PermF (2 ^ (l + 1)) (lr (l + 1) c)
  | 0, c => by
    refine ⟨fun i hi => ?_, fun i j hi hj e => ?_⟩
    · show (bif c 0 then 1 - i else i) < 2
      have : i < 2 := hi
      cases c 0 <;> simp <;> omega
    · have h1 : i < 2 := hi
      have h2 : j < 2 := hj
      have e : (bif c 0 then 1 - i else i) = (bif c 0 then 1 - j else j) := e
      cases h : c 0 <;> simp [h] at e <;> omega
  | l + 1, c => by
    rw [pow_two']
    exact comb_perm (lr_perm l _) (lr_perm l _)
theorem lr_congr : ∀ (l : Nat) {c c' : Nat → Bool}, (∀ j, j < many (l + 1) → c' j = c j) → ∀ k, k < 2 ^ (l + 1) → lr (l + 1) c' k = lr (l + 1) c k
  | 0, c, c', h, k, hk => by show (bif c' 0 then 1 - k else k) = (bif c 0 then 1 - k else k); rw [h 0 (by decide)]
  | l + 1, c, c', h, k, hk => by
    rw [pow_two'] at hk
    have hm : many (l + 1 + 1) = 2 * 2 ^ (l + 1) + 2 * many (l + 1) := by show 2 ^ (l + 2) + _ = _; rw [pow_two']
    exact comb_congr (lr_perm l _).1 (lr_perm l _).1 (fun i hi => h i (by omega)) (fun i hi => h _ (by omega)) (lr_congr l fun j hj => h _ (by omega)) (lr_congr l fun j hj => h _ (by omega)) hk
theorem lr_flip : ∀ (l : Nat) {c c' : Nat → Bool} {i : Nat}, i < many (l + 1) → c' i = (!c i) → (∀ j, j ≠ i → c' j = c j) → ∃ k, k < 2 ^ (l + 1) ∧ lr (l + 1) c' k ≠ lr (l + 1) c k
  | 0, c, c', i, hi, h1, h2 => by
    have : i = 0 := by have : i < 1 := hi; omega
    subst this
    refine ⟨0, by simp, ?_⟩
    show (bif c' 0 then 1 - 0 else 0) ≠ (bif c 0 then 1 - 0 else 0)
    rw [h1]; cases c 0 <;> simp
  | l + 1, c, c', i, hi, h1, h2 => by
    rw [pow_two']
    have hm : many (l + 1 + 1) = 2 * 2 ^ (l + 1) + 2 * many (l + 1) := by show 2 ^ (l + 2) + _ = _; rw [pow_two']
    have P1 := lr_perm l (fun j => c (2 ^ (l + 1) + j))
    have P2 := lr_perm l (fun j => c (2 ^ (l + 1) + many (l + 1) + j))
    show ∃ k, k < 2 * 2 ^ (l + 1) ∧ comb c' _ _ _ k ≠ comb c _ _ _ k
    by_cases a1 : i < 2 ^ (l + 1)
    · exact flip_first a1 (P1.1 i a1) (P2.1 i a1) h1 (fun j hj => h2 _ (by omega)) (lr_congr l (fun j hj => h2 _ (by omega)) i a1) (lr_congr l (fun j hj => h2 _ (by omega)) i a1)
    by_cases a2 : i < 2 ^ (l + 1) + many (l + 1)
    · obtain ⟨d, rfl⟩ : ∃ d, i = 2 ^ (l + 1) + d := ⟨i - 2 ^ (l + 1), by omega⟩
      obtain ⟨k, hk, e⟩ := lr_flip l (c := fun j => c (2 ^ (l + 1) + j)) (c' := fun j => c' (2 ^ (l + 1) + j)) (i := d) (by omega) h1 (fun j hj => h2 _ (by omega))
      exact flip_up hk (h2 _ (by omega)) e
    by_cases a3 : i < 2 ^ (l + 1) + 2 * many (l + 1)
    · obtain ⟨d, rfl⟩ : ∃ d, i = 2 ^ (l + 1) + many (l + 1) + d := ⟨i - (2 ^ (l + 1) + many (l + 1)), by omega⟩
      obtain ⟨k, hk, e⟩ := lr_flip l (c := fun j => c (2 ^ (l + 1) + many (l + 1) + j)) (c' := fun j => c' (2 ^ (l + 1) + many (l + 1) + j)) (i := d) (by omega) h1 (fun j hj => h2 _ (by omega))
      exact flip_low hk (h2 _ (by omega)) e
    · obtain ⟨d, rfl⟩ : ∃ d, i = 2 ^ (l + 1) + 2 * many (l + 1) + d := ⟨i - (2 ^ (l + 1) + 2 * many (l + 1)), by omega⟩
      exact flip_last (j := d) (by omega) P1 (fun j hj => h2 _ (by omega)) h1 (lr_congr l fun j hj => h2 _ (by omega))

/-- marks on lines: not told, upper, lower -/
abbrev Marks := Nat → Option Bool
def upd (s : Marks) (i : Nat) (v : Option Bool) : Marks := fun k => if k = i then v else s k
theorem upd_same (s : Marks) (i : Nat) (v : Option Bool) : upd s i v i = v := by simp [upd]
theorem upd_ne (s : Marks) {i k : Nat} (v : Option Bool) (h : k ≠ i) : upd s i v k = s k := by simp [upd, h]
def cstep (g : Nat → Nat) (s : Marks) (x : Nat) : Marks := upd (upd s x (some false)) (g x) (some true)
def cgo (f g : Nat → Nat) : Nat → Marks → Nat → Marks
  | 0, s, _ => s
  | n + 1, s, x => if s x = none then cgo f g n (cstep g s x) (f (g x)) else s
def call (f g : Nat → Nat) (N : Nat) : Nat → Marks
  | 0 => fun _ => none
  | k + 1 => cgo f g N (call f g N k) k
/-- how many are not told -/
def free (s : Marks) : Nat → Nat
  | 0 => 0
  | n + 1 => free s n + (if s n = none then 1 else 0)
theorem free_le (s : Marks) : ∀ n, free s n ≤ n
  | 0 => Nat.le_refl _
  | n + 1 => by have := free_le s n; unfold free; split <;> omega
theorem free_upd (s : Marks) (i : Nat) (b : Bool) : ∀ n, free (upd s i (some b)) n + (if i < n ∧ s i = none then 1 else 0) ≤ free s n
  | 0 => by simp [free]
  | n + 1 => by
    have ih := free_upd s i b n
    unfold free
    by_cases e : n = i
    · subst e
      rw [upd_same]
      simp only [reduceCtorEq, if_false]
      rw [if_neg (by omega)] at ih
      split <;> split <;> simp_all <;> omega
    · rw [upd_ne _ _ e]
      by_cases h : i < n ∧ s i = none
      · have h' : i < n + 1 ∧ s i = none := ⟨by omega, h.2⟩
        simp only [if_pos h] at ih; simp only [if_pos h']; omega
      · have h' : ¬ (i < n + 1 ∧ s i = none) := fun h2 => h ⟨by omega, h2.2⟩
        simp only [if_neg h] at ih; simp only [if_neg h']; omega
theorem free_cstep {g : Nat → Nat} {s : Marks} {x N : Nat} (hx : x < N) (h : s x = none) : free (cstep g s x) N < free s N := by
  have h1 := free_upd s x false N
  have h2 := free_upd (upd s x (some false)) (g x) true N
  rw [if_pos ⟨hx, h⟩] at h1
  unfold cstep
  split at h2 <;> omega
theorem free_pos {s : Marks} {x : Nat} (h : s x = none) : ∀ N, x < N → 0 < free s N
  | 0, h0 => absurd h0 (by omega)
  | n + 1, h0 => by
    unfold free
    by_cases e : x = n
    · subst e; rw [if_pos h]; omega
    · have := free_pos h n (by omega); omega

/-- pairs of lines -/
structure Inv (N : Nat) (f : Nat → Nat) : Prop where
  lt : ∀ i, i < N → f i < N
  inv : ∀ i, i < N → f (f i) = i
  ne : ∀ i, i < N → f i ≠ i
theorem Inv.inj {N : Nat} {f : Nat → Nat} (h : Inv N f) {i j : Nat} (hi : i < N) (hj : j < N) (e : f i = f j) : i = j := by rw [← h.inv i hi, e, h.inv j hj]
def Closed (N : Nat) (f g : Nat → Nat) (s : Marks) : Prop := ∀ i, i < N → ∀ b, s i = some b → s (f i) = some (!b) ∧ s (g i) = some (!b)
structure Head (N : Nat) (f g : Nat → Nat) (s : Marks) (st x : Nat) : Prop where
  hst : st < N
  hx : x < N
  h1 : ∀ i, i < N → ∀ b, s i = some b → s (g i) = some (!b)
  h2 : ∀ i, i < N → ∀ b, s i = some b → i = st ∨ i = f x ∨ s (f i) = some (!b)
  h3 : s (f x) = some true
  h4 : s st = some false
  h5 : s x ≠ none → x = st
  h6 : s (f st) ≠ none → st = x
section color
variable {N : Nat} {f g : Nat → Nat} (F : Inv N f) (G : Inv N g)
include F G
theorem cstep_get {s : Marks} {x i : Nat} {b : Bool} (h : cstep g s x i = some b) : (i = g x ∧ b = true) ∨ (i ≠ g x ∧ i = x ∧ b = false) ∨ (i ≠ g x ∧ i ≠ x ∧ s i = some b) := by
  unfold cstep upd at h
  split at h
  · rename_i e; cases h; exact .inl ⟨e, rfl⟩
  · rename_i e
    split at h
    · rename_i e2; cases h; exact .inr (.inl ⟨e, e2, rfl⟩)
    · rename_i e2; exact .inr (.inr ⟨e, e2, h⟩)
omit F G in
theorem cstep_g (s : Marks) (x : Nat) : cstep g s x (g x) = some true := upd_same _ _ _
omit F in
theorem cstep_x (s : Marks) {x : Nat} (hx : x < N) : cstep g s x x = some false := by
  unfold cstep; rw [upd_ne _ _ (fun e => G.ne x hx e.symm), upd_same]
omit F G in
theorem cstep_o (s : Marks) {x i : Nat} (h1 : i ≠ g x) (h2 : i ≠ x) : cstep g s x i = s i := by
  unfold cstep; rw [upd_ne _ _ h1, upd_ne _ _ h2]
omit F G in
theorem some_ne {s : Marks} {i j : Nat} {b : Bool} (h1 : s i = some b) (h2 : s j = none) : i ≠ j := by rintro rfl; rw [h1] at h2; cases h2
theorem head_step {s : Marks} {st x : Nat} (h : Head N f g s st x) (hn : s x = none) : Head N f g (cstep g s x) st (f (g x)) := by
  have hx := h.hx
  have hgx := G.lt x hx
  have gn : s (g x) = none := by
    cases e : s (g x) with
    | none => rfl
    | some b => have := h.h1 _ hgx b e; rw [G.inv x hx, hn] at this; cases this
  have ffg : f (f (g x)) = g x := F.inv _ hgx
  have st1 : st ≠ g x := some_ne h.h4 gn
  have st2 : st ≠ x := some_ne h.h4 hn
  have fx1 : f x ≠ g x := some_ne h.h3 gn
  refine ⟨h.hst, F.lt _ hgx, fun i hi b hb => ?_, fun i hi b hb => ?_, by rw [ffg]; exact cstep_g s x, by rw [cstep_o s st1 st2]; exact h.h4, fun hne => ?_, fun hne => ?_⟩
  · rcases cstep_get F G hb with ⟨rfl, rfl⟩ | ⟨_, rfl, rfl⟩ | ⟨n1, n2, e⟩
    · rw [G.inv x hx]; exact cstep_x G s hx
    · exact cstep_g s i
    · rw [cstep_o s (fun e => n2 (G.inj hi hx e)) (fun e => n1 (by rw [← e, G.inv i hi]))]
      exact h.h1 i hi b e
  · rcases cstep_get F G hb with ⟨rfl, rfl⟩ | ⟨_, rfl, rfl⟩ | ⟨n1, n2, e⟩
    · exact .inr (.inl ffg.symm)
    · exact .inr (.inr (by rw [cstep_o s fx1 (F.ne i hi)]; exact h.h3))
    · rcases h.h2 i hi b e with h7 | rfl | h7
      · exact .inl h7
      · rw [h.h3] at e; cases e
        refine .inr (.inr ?_)
        rw [F.inv x hx]; exact cstep_x G s hx
      · exact .inr (.inr (by rw [cstep_o s (some_ne h7 gn) (some_ne h7 hn)]; exact h7))
  · cases e : cstep g s x (f (g x)) with
    | none => exact absurd e hne
    | some b =>
      rcases cstep_get F G e with ⟨e1, _⟩ | ⟨_, e1, _⟩ | ⟨n1, n2, e1⟩
      · exact absurd e1 (F.ne _ hgx)
      · refine absurd ?_ fx1
        rw [← ffg, e1]
      · rcases h.h2 _ (F.lt _ hgx) b e1 with h7 | h7 | h7
        · exact h7
        · exact absurd (F.inj hgx hx h7) (G.ne x hx)
        · rw [ffg, gn] at h7; cases h7
  · cases e : cstep g s x (f st) with
    | none => exact absurd e hne
    | some b =>
      rcases cstep_get F G e with ⟨e1, _⟩ | ⟨_, e1, _⟩ | ⟨n1, n2, e1⟩
      · rw [← e1, F.inv st h.hst]
      · have : st = f x := by rw [← e1, F.inv st h.hst]
        have h3 := h.h3; rw [← this, h.h4] at h3; cases h3
      · exact absurd (h.h6 (by rw [e1]; simp)) st2
theorem head_start {s : Marks} {st : Nat} (hst : st < N) (hc : Closed N f g s) (hn : s st = none) : Head N f g (cstep g s st) st (f (g st)) := by
  have hgx := G.lt st hst
  have gn : s (g st) = none := by
    cases e : s (g st) with
    | none => rfl
    | some b => have := (hc _ hgx b e).2; rw [G.inv st hst, hn] at this; cases this
  have fn : s (f st) = none := by
    cases e : s (f st) with
    | none => rfl
    | some b => have := (hc _ (F.lt st hst) b e).1; rw [F.inv st hst, hn] at this; cases this
  have ffg : f (f (g st)) = g st := F.inv _ hgx
  refine ⟨hst, F.lt _ hgx, fun i hi b hb => ?_, fun i hi b hb => ?_, by rw [ffg]; exact cstep_g s st, cstep_x G s hst, fun hne => ?_, fun hne => ?_⟩
  · rcases cstep_get F G hb with ⟨rfl, rfl⟩ | ⟨_, rfl, rfl⟩ | ⟨n1, n2, e⟩
    · rw [G.inv st hst]; exact cstep_x G s hst
    · exact cstep_g s i
    · rw [cstep_o s (fun e => n2 (G.inj hi hst e)) (fun e => n1 (by rw [← e, G.inv i hi]))]
      exact (hc i hi b e).2
  · rcases cstep_get F G hb with ⟨rfl, rfl⟩ | ⟨_, rfl, rfl⟩ | ⟨n1, n2, e⟩
    · exact .inr (.inl ffg.symm)
    · exact .inl rfl
    · have h7 := (hc i hi b e).1
      exact .inr (.inr (by rw [cstep_o s (some_ne h7 gn) (some_ne h7 hn)]; exact h7))
  · cases e : cstep g s st (f (g st)) with
    | none => exact absurd e hne
    | some b =>
      rcases cstep_get F G e with ⟨e1, _⟩ | ⟨_, e1, _⟩ | ⟨n1, n2, e1⟩
      · exact absurd e1 (F.ne _ hgx)
      · exact e1
      · have h7 := (hc _ (F.lt _ hgx) b e1).1
        rw [ffg, gn] at h7; cases h7
  · cases e : cstep g s st (f st) with
    | none => exact absurd e hne
    | some b =>
      rcases cstep_get F G e with ⟨e1, _⟩ | ⟨_, e1, _⟩ | ⟨n1, n2, e1⟩
      · rw [← e1, F.inv st hst]
      · exact absurd e1 (F.ne st hst)
      · rw [fn] at e1; cases e1
theorem head_exit {s : Marks} {st x : Nat} (h : Head N f g s st x) (hn : s x ≠ none) : Closed N f g s := by
  have e := h.h5 hn
  subst e
  intro i hi b hb
  refine ⟨?_, h.h1 i hi b hb⟩
  rcases h.h2 i hi b hb with rfl | rfl | h7
  · rw [h.h4] at hb; cases hb; exact h.h3
  · rw [h.h3] at hb; cases hb; rw [F.inv x h.hst]; exact h.h4
  · exact h7
omit F G in
theorem cstep_told {s : Marks} {x i : Nat} (h : s i ≠ none) : cstep g s x i ≠ none := by
  unfold cstep upd; split
  · simp
  · split
    · simp
    · exact h
theorem cgo_head {st : Nat} : ∀ (n : Nat) (s : Marks) (x : Nat), Head N f g s st x → free s N ≤ n → Closed N f g (cgo f g n s x) ∧ ∀ i, s i ≠ none → cgo f g n s x i ≠ none
  | 0, s, x, h, hf => by
    refine ⟨head_exit F G h fun e => ?_, fun _ h => h⟩
    have e : s x = none := e
    have := free_pos e N h.hx; omega
  | n + 1, s, x, h, hf => by
    unfold cgo
    split
    · rename_i e
      have h1 := free_cstep (g := g) h.hx e
      obtain ⟨a1, a2⟩ := cgo_head n _ _ (head_step F G h e) (by omega)
      exact ⟨a1, fun i hi => a2 i (cstep_told hi)⟩
    · rename_i e; exact ⟨head_exit F G h e, fun _ h => h⟩
theorem cgo_closed {s : Marks} {st : Nat} (hst : st < N) (hc : Closed N f g s) : Closed N f g (cgo f g N s st) ∧ (∀ i, s i ≠ none → cgo f g N s st i ≠ none) ∧ cgo f g N s st st ≠ none := by
  obtain ⟨n, rfl⟩ : ∃ n, N = n + 1 := ⟨N - 1, by omega⟩
  unfold cgo
  split
  · rename_i e
    have h1 := free_cstep (g := g) hst e
    have h2 := free_le s (n + 1)
    obtain ⟨a1, a2⟩ := cgo_head F G n _ _ (head_start F G hst hc e) (by omega)
    exact ⟨a1, fun i hi => a2 i (cstep_told hi), a2 st (by rw [cstep_x G s hst]; simp)⟩
  · rename_i e; exact ⟨hc, fun _ h => h, e⟩
theorem call_closed : ∀ k, k ≤ N → Closed N f g (call f g N k) ∧ ∀ i, i < k → call f g N k i ≠ none
  | 0, _ => ⟨fun _ _ _ h => (by cases h), fun _ h => absurd h (by omega)⟩
  | k + 1, hk => by
    obtain ⟨a1, a2⟩ := call_closed k (by omega)
    obtain ⟨b1, b2, b3⟩ := cgo_closed F G (show k < N by omega) a1
    refine ⟨b1, fun i hi => ?_⟩
    by_cases e : i = k
    · subst e; exact b3
    · exact b2 i (a2 i (by omega))
end color
/-- through which network -/
def low? (f g : Nat → Nat) (N i : Nat) : Bool := call f g N N i == some true
theorem low?_opp {N : Nat} {f g : Nat → Nat} (F : Inv N f) (G : Inv N g) {i : Nat} (hi : i < N) : low? f g N (f i) = (!low? f g N i) ∧ low? f g N (g i) = (!low? f g N i) := by
  obtain ⟨a1, a2⟩ := call_closed F G N (Nat.le_refl _)
  unfold low?
  cases e : call f g N N i with
  | none => exact absurd e (a2 i hi)
  | some b =>
    obtain ⟨e1, e2⟩ := a1 i hi b e
    rw [e1, e2]
    cases b <;> exact ⟨rfl, rfl⟩

/-- back from an output -/
def bk (N : Nat) (q : Nat → Nat) (o : Nat) : Nat := ((List.range N).find? fun i => q i == o).getD 0
theorem bk_q {N : Nat} {q : Nat → Nat} (h : PermF N q) {i : Nat} (hi : i < N) : bk N q (q i) = i := by
  unfold bk
  cases e : (List.range N).find? fun j => q j == q i with
  | none => have := List.find?_eq_none.1 e i (List.mem_range.2 hi); simp at this
  | some j =>
    have h1 := List.find?_some e
    have h2 := List.mem_range.1 (List.mem_of_find?_eq_some e)
    simp at h1
    exact h.2 j i h2 hi h1
theorem q_bk {N : Nat} {q : Nat → Nat} (h : PermF N q) {o : Nat} (ho : o < N) : bk N q o < N ∧ q (bk N q o) = o := by
  obtain ⟨i, hi, e⟩ := onto_of_inj N q h.1 h.2 o ho
  rw [← e, bk_q h hi]
  exact ⟨hi, rfl⟩
theorem fl_Inv (H : Nat) : Inv (2 * H) fl := ⟨fun i hi => by unfold fl; omega, fun i _ => fl_fl i, fun i _ => fl_ne i⟩
def gq (N : Nat) (q : Nat → Nat) (i : Nat) : Nat := bk N q (fl (q i))
theorem gq_Inv {H : Nat} {q : Nat → Nat} (h : PermF (2 * H) q) : Inv (2 * H) (gq (2 * H) q) := by
  have F := fl_Inv H
  refine ⟨fun i hi => (q_bk h (F.lt _ (h.1 i hi))).1, fun i hi => ?_, fun i hi e => ?_⟩
  · unfold gq
    rw [(q_bk h (F.lt _ (h.1 i hi))).2, fl_fl, bk_q h hi]
  · have := (q_bk h (F.lt _ (h.1 i hi))).2
    unfold gq at e
    rw [e] at this
    exact F.ne _ (h.1 i hi) this.symm

/-- which network, for a permutation of 2H lines -/
def lowQ (H : Nat) (q : Nat → Nat) (i : Nat) : Bool := low? fl (gq (2 * H) q) (2 * H) i
def bgn (H : Nat) (q : Nat → Nat) (j : Nat) : Bool := lowQ H q (2 * j)
def end' (H : Nat) (q : Nat → Nat) (j : Nat) : Bool := lowQ H q (bk (2 * H) q (2 * j))
def upQ (H : Nat) (q : Nat → Nat) (j : Nat) : Nat := q (2 * j + (bgn H q j).toNat) / 2
def lowN (H : Nat) (q : Nat → Nat) (j : Nat) : Nat := q (2 * j + (!bgn H q j).toNat) / 2
section
variable {H : Nat} {q : Nat → Nat} (h : PermF (2 * H) q)
include h
theorem lowQ_fl {i : Nat} (hi : i < 2 * H) : lowQ H q (fl i) = !lowQ H q i := (low?_opp (fl_Inv H) (gq_Inv h) hi).1
theorem lowQ_g {i : Nat} (hi : i < 2 * H) : lowQ H q (gq (2 * H) q i) = !lowQ H q i := (low?_opp (fl_Inv H) (gq_Inv h) hi).2
theorem lowQ_in {k : Nat} (hk : k < 2 * H) : side (bgn H q) k = lowQ H q k := by
  unfold side bgn
  by_cases e : k % 2 = 1
  · have : 2 * (k / 2) = fl k := by unfold fl; omega
    rw [this, lowQ_fl h hk, decide_eq_true e]
    cases lowQ H q k <;> rfl
  · have : 2 * (k / 2) = k := by omega
    rw [this, decide_eq_false e]
    cases lowQ H q k <;> rfl
theorem lowQ_out {k : Nat} (hk : k < 2 * H) : decide (q k % 2 = 1) = (lowQ H q k != end' H q (q k / 2)) := by
  unfold end'
  by_cases e : q k % 2 = 1
  · have : 2 * (q k / 2) = fl (q k) := by unfold fl; omega
    rw [this, decide_eq_true e]
    show true = (_ != lowQ H q (gq (2 * H) q k))
    rw [lowQ_g h hk]
    cases lowQ H q k <;> rfl
  · have : 2 * (q k / 2) = q k := by omega
    rw [this, decide_eq_false e, bk_q h hk]
    cases lowQ H q k <;> rfl
theorem lowQ_pair {k j : Nat} (hk : k < 2 * H) (hj : j < 2 * H) (e : q k / 2 = q j / 2) (hs : lowQ H q k = lowQ H q j) : k = j := by
  by_cases e2 : q k = q j
  · exact h.2 k j hk hj e2
  · have e3 := fl_of e e2
    have : k = gq (2 * H) q j := by unfold gq; rw [← e3, bk_q h hk]
    rw [this, lowQ_g h hj] at hs
    generalize lowQ H q j = b at hs
    cases b <;> cases hs
theorem up_at {j : Nat} (hj : j < H) : lowQ H q (2 * j + (bgn H q j).toNat) = false ∧ 2 * j + (bgn H q j).toNat < 2 * H := by
  have h1 : (bgn H q j).toNat ≤ 1 := by cases bgn H q j <;> simp
  have h2 : 2 * j + (bgn H q j).toNat < 2 * H := by omega
  exact ⟨by rw [← lowQ_in h h2]; exact (side_tt _ _).1, h2⟩
theorem low_at {j : Nat} (hj : j < H) : lowQ H q (2 * j + (!bgn H q j).toNat) = true ∧ 2 * j + (!bgn H q j).toNat < 2 * H := by
  have h1 : (!bgn H q j).toNat ≤ 1 := by cases bgn H q j <;> simp
  have h2 : 2 * j + (!bgn H q j).toNat < 2 * H := by omega
  exact ⟨by rw [← lowQ_in h h2]; exact (side_ff _ _).1, h2⟩
theorem upQ_perm : PermF H (upQ H q) := by
  refine ⟨fun j hj => ?_, fun i j hi hj e => ?_⟩
  · have := h.1 _ (up_at h hj).2; unfold upQ; omega
  · have := lowQ_pair h (up_at h hi).2 (up_at h hj).2 e (by rw [(up_at h hi).1, (up_at h hj).1])
    have h1 : (bgn H q i).toNat ≤ 1 := by cases bgn H q i <;> simp
    have h2 : (bgn H q j).toNat ≤ 1 := by cases bgn H q j <;> simp
    omega
theorem lowN_perm : PermF H (lowN H q) := by
  refine ⟨fun j hj => ?_, fun i j hi hj e => ?_⟩
  · have := h.1 _ (low_at h hj).2; unfold lowN; omega
  · have := lowQ_pair h (low_at h hi).2 (low_at h hj).2 e (by rw [(low_at h hi).1, (low_at h hj).1])
    have h1 : (!bgn H q i).toNat ≤ 1 := by cases bgn H q i <;> simp
    have h2 : (!bgn H q j).toNat ≤ 1 := by cases bgn H q j <;> simp
    omega
theorem comb_q {k : Nat} (hk : k < 2 * H) : comb (bgn H q) (end' H q) (upQ H q) (lowN H q) k = q k := by
  have hs := lowQ_in h hk
  have ho := lowQ_out h hk
  have hkk := k_of_side (bgn H q) k
  have ht : (bif side (bgn H q) k then lowN H q (k / 2) else upQ H q (k / 2)) = q k / 2 := by
    cases e : side (bgn H q) k
    · rw [e] at hkk
      simp only [cond_false, upQ]
      rw [show (false != bgn H q (k / 2)) = bgn H q (k / 2) by cases bgn H q (k / 2) <;> rfl] at hkk
      rw [← hkk]
    · rw [e] at hkk
      simp only [cond_true, lowN]
      rw [show (true != bgn H q (k / 2)) = !bgn H q (k / 2) by cases bgn H q (k / 2) <;> rfl] at hkk
      rw [← hkk]
  unfold comb
  rw [ht, hs, ← ho]
  by_cases e : q k % 2 = 1
  · rw [decide_eq_true e]; show 2 * (q k / 2) + 1 = _; omega
  · rw [decide_eq_false e]; show 2 * (q k / 2) + 0 = _; omega
end
/-- how the switches are set -/
def ls : Nat → (Nat → Nat) → Nat → Bool
  | 0, _, _ => false
  | 1, q, _ => q 0 == 1
  | l + 2, q, i =>
    if i < 2 ^ (l + 1) then bgn (2 ^ (l + 1)) q i
    else if i < 2 ^ (l + 1) + many (l + 1) then ls (l + 1) (upQ (2 ^ (l + 1)) q) (i - 2 ^ (l + 1))
    else if i < 2 ^ (l + 1) + 2 * many (l + 1) then ls (l + 1) (lowN (2 ^ (l + 1)) q) (i - (2 ^ (l + 1) + many (l + 1)))
    else end' (2 ^ (l + 1)) q (i - (2 ^ (l + 1) + 2 * many (l + 1)))
theorem lr_ls : ∀ (l : Nat) {q : Nat → Nat}, PermF (2 ^ (l + 1)) q → ∀ k, k < 2 ^ (l + 1) → lr (l + 1) (ls (l + 1) q) k = q k
  | 0, q, h, k, hk => by
    have h0 : q 0 < 2 := h.1 0 (by decide)
    have h1 : q 1 < 2 := h.1 1 (by decide)
    have hne : q 0 ≠ q 1 := fun e => absurd (h.2 0 1 (by decide) (by decide) e) (by decide)
    show (bif q 0 == 1 then 1 - k else k) = q k
    have hk : k = 0 ∨ k = 1 := by have : k < 2 := hk; omega
    by_cases e : q 0 = 1
    · rw [beq_iff_eq.2 e]
      rcases hk with rfl | rfl
      · exact e.symm
      · show 0 = q 1; omega
    · rw [beq_eq_false_iff_ne.2 e]
      rcases hk with rfl | rfl
      · show 0 = q 0; omega
      · show 1 = q 1; omega
  | l + 1, q, h, k, hk => by
    rw [pow_two'] at hk h
    rw [← comb_q h hk]
    have hm : many (l + 1 + 1) = 2 * 2 ^ (l + 1) + 2 * many (l + 1) := by show 2 ^ (l + 2) + _ = _; rw [pow_two']
    have U := upQ_perm h
    have W := lowN_perm h
    refine comb_congr U.1 W.1 (fun i hi => ?_) (fun i hi => ?_) (fun i hi => ?_) (fun i hi => ?_) hk
    · show ls (l + 2) q i = _
      unfold ls; rw [if_pos hi]
    · show ls (l + 2) q _ = _
      unfold ls; rw [if_neg (by omega), if_neg (by omega), if_neg (by omega)]
      congr 1; omega
    · rw [← lr_ls l U i hi]
      refine lr_congr l (fun j hj => ?_) i hi
      show ls (l + 2) q _ = _
      rw [ls, if_neg (by omega), if_pos (by omega)]
      congr 1; omega
    · rw [← lr_ls l W i hi]
      refine lr_congr l (fun j hj => ?_) i hi
      show ls (l + 2) q _ = _
      rw [ls, if_neg (by omega), if_neg (by omega), if_pos (by omega)]
      congr 1; omega
end Go.Ban

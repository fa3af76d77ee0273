/- Calls that are moved: chains of two middle switches. -/
import Derived.Test.YtphacjkogompoaaCa
set_option linter.unusedSimpArgs false
set_option linter.unusedVariables false
set_option linter.unusedSectionVars false
namespace Go.Clos

theorem b_ne {t sd : Bool} (h : ¬ t = sd) : t = !sd := by cases t <;> cases sd <;> simp_all
def gc (cs : List Cl) (k : Nat) : Cl := cs.getD k Go.Abs.cl0
theorem gc_some {cs : List Cl} {k : Nat} (h : k < cs.length) : cs[k]? = some (gc cs k) := by simp [gc, List.getD, h]
theorem gc_mem {cs : List Cl} {k : Nat} (h : k < cs.length) : gc cs k ∈ cs := List.mem_of_getElem? (gc_some h)
theorem mem_gc {cs : List Cl} {c : Cl} (h : c ∈ cs) : ∃ k, k < cs.length ∧ gc cs k = c := by
  obtain ⟨k, hk, rfl⟩ := List.getElem_of_mem h
  exact ⟨k, hk, by simp [gc, List.getD, hk]⟩
/-- the outer switch of a call on a side (true: of its output) -/
def sw (s : Sp) (sd : Bool) (c : Cl) : Int := bif sd then c.o / s.E else c.i / s.E
def AtC (s : Sp) (sd : Bool) (x w : Int) (c : Cl) : Prop := sw s sd c = x ∧ c.v = w
instance (s : Sp) (sd : Bool) (x w : Int) (c : Cl) : Decidable (AtC s sd x w c) := by unfold AtC; infer_instance
theorem hit_sw {s : Sp} {sd : Bool} {c d : Cl} (h1 : sw s sd c = sw s sd d) (h2 : c.v = d.v) : Hit s c d := by
  cases sd
  · exact .inr (.inr ⟨h2, .inl h1⟩)
  · exact .inr (.inr ⟨h2, .inr h1⟩)
theorem CV.sw_one {s : Sp} {cs : List Cl} (h : CV s cs) {sd : Bool} {k l : Nat} (hk : k < cs.length) (hl : l < cs.length) (h1 : sw s sd (gc cs k) = sw s sd (gc cs l)) (h2 : (gc cs k).v = (gc cs l).v) : k = l :=
  h.one (gc_some hk) (gc_some hl) (hit_sw h1 h2)
/-- the last of the first n calls at an outer switch through a middle switch that is not in the chain -/
def nxt (s : Sp) (cs : List Cl) (ch : List Nat) (sd : Bool) (x w : Int) : Nat → Option Nat
  | 0 => none
  | n + 1 => if AtC s sd x w (gc cs n) ∧ n ∉ ch then some n else nxt s cs ch sd x w n
theorem nxt_none {s : Sp} {cs : List Cl} {ch : List Nat} {sd : Bool} {x w : Int} : ∀ {n : Nat}, nxt s cs ch sd x w n = none → ∀ l, l < n → AtC s sd x w (gc cs l) → l ∈ ch
  | 0, _, l, hl, _ => absurd hl (by omega)
  | n + 1, h, l, hl, hc => by
    unfold nxt at h
    split at h
    · cases h
    · rename_i hn
      by_cases e : l = n
      · subst e; exact Classical.byContradiction fun hm => hn ⟨hc, hm⟩
      · exact nxt_none h l (by omega) hc
theorem nxt_some {s : Sp} {cs : List Cl} {ch : List Nat} {sd : Bool} {x w : Int} : ∀ {n k : Nat}, nxt s cs ch sd x w n = some k → k < n ∧ AtC s sd x w (gc cs k) ∧ k ∉ ch
  | 0, k, h => by cases h
  | n + 1, k, h => by
    unfold nxt at h
    split at h
    · rename_i hn
      cases h; exact ⟨by omega, hn⟩
    · obtain ⟨a, b⟩ := nxt_some h
      exact ⟨by omega, b⟩
def wantOf (a b : Int) (sd : Bool) : Int := bif sd then a else b
/-- the chain -/
def go (s : Sp) (cs : List Cl) (a b : Int) : Nat → List Nat → Bool → Int → List Nat
  | 0, ch, _, _ => ch
  | f + 1, ch, sd, x => match nxt s cs ch sd x (wantOf a b sd) cs.length with
    | none => ch
    | some k => go s cs a b f (ch ++ [k]) (!sd) (sw s (!sd) (gc cs k))
def chain (s : Sp) (cs : List Cl) (a b : Int) (B : Int) : List Nat := go s cs a b cs.length [] true B

structure Inv (s : Sp) (cs : List Cl) (a b B : Int) (ch : List Nat) (sd : Bool) (x : Int) : Prop where
  nd : ch.Nodup
  lt : ∀ k ∈ ch, k < cs.length
  ab : ∀ k ∈ ch, (gc cs k).v = a ∨ (gc cs k).v = b
  from_ : ∀ k ∈ ch, (gc cs k).v = b → ∃ l ∈ ch, (gc cs l).v = a ∧ sw s false (gc cs l) = sw s false (gc cs k)
  fr : sd = false → ∃ l ∈ ch, (gc cs l).v = a ∧ sw s false (gc cs l) = x
  cl : ∀ k ∈ ch, ∀ t l, l < cs.length → sw s t (gc cs l) = sw s t (gc cs k) → (gc cs l).v = a + b - (gc cs k).v → l ∈ ch ∨ AtC s sd x (wantOf a b sd) (gc cs l)
  st : ∀ l, l < cs.length → AtC s true B a (gc cs l) → l ∈ ch ∨ AtC s sd x (wantOf a b sd) (gc cs l)
  six : ∀ l, l < cs.length → sw s sd (gc cs l) = x → (gc cs l).v = a + b - wantOf a b sd → l ∈ ch

section
variable {s : Sp} {cs : List Cl} {a b B : Int} (h : CV s cs) (hab : a ≠ b) (hB : ∀ l, l < cs.length → sw s true (gc cs l) = B → (gc cs l).v ≠ b)
include h hab hB
theorem inv_start : Inv s cs a b B [] true B where
  nd := List.nodup_nil
  lt := fun k hk => absurd hk (by simp)
  ab := fun k hk => absurd hk (by simp)
  from_ := fun k hk => absurd hk (by simp)
  fr := fun e => by cases e
  cl := fun k hk => absurd hk (by simp)
  st := fun l hl hc => .inr hc
  six := fun l hl h1 h2 => absurd (show (gc cs l).v = b by rw [h2]; show a + b - a = b; omega) (hB l hl h1)
theorem Inv.step {ch : List Nat} {sd : Bool} {x : Int} {k : Nat} (hi : Inv s cs a b B ch sd x) (hn : nxt s cs ch sd x (wantOf a b sd) cs.length = some k) : Inv s cs a b B (ch ++ [k]) (!sd) (sw s (!sd) (gc cs k)) := by
  obtain ⟨hk, ⟨k1, k2⟩, k3⟩ := nxt_some hn
  have one : ∀ l, l < cs.length → AtC s sd x (wantOf a b sd) (gc cs l) → l = k := fun l hl hc => h.sw_one (sd := sd) hl hk (by rw [hc.1, k1]) (by rw [hc.2, k2])
  have hw : wantOf a b (!sd) = a + b - wantOf a b sd := by cases sd <;> simp [wantOf] <;> omega
  refine ⟨?_, ?_, ?_, ?_, ?_, ?_, ?_, ?_⟩
  · rw [List.nodup_append]
    refine ⟨hi.nd, by simp, fun y hy z hz e => ?_⟩
    rw [List.mem_singleton] at hz
    exact k3 (by rw [← hz, ← e]; exact hy)
  · intro l hl
    rcases List.mem_append.1 hl with hl | hl
    · exact hi.lt l hl
    · rw [List.mem_singleton] at hl; omega
  · intro l hl
    rcases List.mem_append.1 hl with hl | hl
    · exact hi.ab l hl
    · rw [List.mem_singleton] at hl
      subst hl
      rw [k2]; cases sd
      · exact .inr rfl
      · exact .inl rfl
  · intro l hl hv
    rcases List.mem_append.1 hl with hl | hl
    · obtain ⟨m, hm, h1, h2⟩ := hi.from_ l hl hv
      exact ⟨m, List.mem_append.2 (.inl hm), h1, h2⟩
    · rw [List.mem_singleton] at hl
      subst hl
      rw [k2] at hv
      cases sd with
      | true => exact absurd hv hab
      | false =>
        obtain ⟨m, hm, h1, h2⟩ := hi.fr rfl
        exact ⟨m, List.mem_append.2 (.inl hm), h1, by rw [h2, k1]⟩
  · intro e
    cases sd with
    | false => cases e
    | true => exact ⟨k, List.mem_append.2 (.inr (by simp)), k2, rfl⟩
  · intro j hj t l hl h1 h2
    rcases List.mem_append.1 hj with hj | hj
    · rcases hi.cl j hj t l hl h1 h2 with h3 | h3
      · exact .inl (List.mem_append.2 (.inl h3))
      · exact .inl (List.mem_append.2 (.inr (by rw [one l hl h3]; simp)))
    · rw [List.mem_singleton] at hj
      subst hj
      rw [k2] at h2
      by_cases e : t = sd
      · subst e
        exact .inl (List.mem_append.2 (.inl (hi.six l hl (by rw [h1, k1]) h2)))
      · have e2 : t = !sd := b_ne e
        subst e2
        exact .inr ⟨h1, by rw [hw]; exact h2⟩
  · intro l hl hc
    rcases hi.st l hl hc with h3 | h3
    · exact .inl (List.mem_append.2 (.inl h3))
    · exact .inl (List.mem_append.2 (.inr (by rw [one l hl h3]; simp)))
  · intro l hl h1 h2
    have : l = k := h.sw_one (sd := !sd) hl hk h1 (by rw [h2, k2, hw]; omega)
    exact List.mem_append.2 (.inr (by rw [this]; simp))
structure Closed (s : Sp) (cs : List Cl) (a b B : Int) (ch : List Nat) : Prop where
  nd : ch.Nodup
  lt : ∀ k ∈ ch, k < cs.length
  ab : ∀ k ∈ ch, (gc cs k).v = a ∨ (gc cs k).v = b
  from_ : ∀ k ∈ ch, (gc cs k).v = b → ∃ l ∈ ch, (gc cs l).v = a ∧ sw s false (gc cs l) = sw s false (gc cs k)
  cl : ∀ k ∈ ch, ∀ t l, l < cs.length → sw s t (gc cs l) = sw s t (gc cs k) → (gc cs l).v = a + b - (gc cs k).v → l ∈ ch
  st : ∀ l, l < cs.length → AtC s true B a (gc cs l) → l ∈ ch
omit h hab hB in
theorem Inv.stop {ch : List Nat} {sd : Bool} {x : Int} (hi : Inv s cs a b B ch sd x) (hn : ∀ l, l < cs.length → AtC s sd x (wantOf a b sd) (gc cs l) → l ∈ ch) : Closed s cs a b B ch :=
  ⟨hi.nd, hi.lt, hi.ab, hi.from_, fun k hk t l hl h1 h2 => (hi.cl k hk t l hl h1 h2).elim id (hn l hl), fun l hl hc => (hi.st l hl hc).elim id (hn l hl)⟩
omit h hab hB in
theorem all_in {ch : List Nat} {n : Nat} (h1 : ch.Nodup) (h2 : ∀ k ∈ ch, k < n) (h3 : n ≤ ch.length) {l : Nat} (hl : l < n) : l ∈ ch :=
  Classical.byContradiction fun hm => by
    have := sub_len (xs := l :: ch) (ys := List.range n) (List.nodup_cons.2 ⟨hm, h1⟩) fun y hy => by
      rcases List.mem_cons.1 hy with rfl | hy
      · exact List.mem_range.2 hl
      · exact List.mem_range.2 (h2 y hy)
    simp at this; omega
theorem go_closed : ∀ (f : Nat) {ch : List Nat} {sd : Bool} {x : Int}, Inv s cs a b B ch sd x → cs.length ≤ ch.length + f → Closed s cs a b B (go s cs a b f ch sd x)
  | 0, ch, sd, x, hi, hf => hi.stop fun l hl _ => all_in hi.nd hi.lt hf hl
  | f + 1, ch, sd, x, hi, hf => by
    unfold go
    cases hn : nxt s cs ch sd x (wantOf a b sd) cs.length with
    | none => exact hi.stop (nxt_none hn)
    | some k => exact go_closed f (Inv.step h hab hB hi hn) (by simp; omega)
theorem chain_closed : Closed s cs a b B (chain s cs a b B) := go_closed h hab hB cs.length (inv_start h hab hB) (by simp)
end
/-- a chain has at most one call less than twice the outer switches are -/
theorem Closed.len {s : Sp} {cs : List Cl} {a b B : Int} {ch : List Nat} (h : CV s cs) (hab : a ≠ b) (hB : ∀ l, l < cs.length → sw s true (gc cs l) = B → (gc cs l).v ≠ b) (hc : Closed s cs a b B ch) (hB2 : 0 ≤ B ∧ B < s.O) : (ch.length : Int) ≤ 2 * s.O - 1 := by
  obtain ⟨⟨o1, o2⟩, ⟨e1, e2⟩, -⟩ := h.1
  have hr : ∀ k ∈ ch, 0 ≤ sw s true (gc cs k) ∧ sw s true (gc cs k) < s.O := fun k hk => by
    have := (h.2.1 _ (gc_mem (hc.lt k hk))).2.1
    exact ⟨Int.ediv_nonneg this.1 (by omega), Int.ediv_lt_of_lt_mul (by omega) (by omega)⟩
  have hpw : ∀ w, (ch.filter fun k => (gc cs k).v = w).Pairwise fun j k => sw s true (gc cs j) ≠ sw s true (gc cs k) := fun w => by
    have hsub : (ch.filter fun k => decide ((gc cs k).v = w)).Sublist ch := List.filter_sublist
    refine ((List.nodup_iff_pairwise_ne.1 hc.nd).sublist hsub).imp_of_mem fun {j k} hj hk hne e => hne ?_
    have h1 : (gc cs j).v = w := by simpa using (List.mem_filter.1 hj).2
    have h2 : (gc cs k).v = w := by simpa using (List.mem_filter.1 hk).2
    exact h.sw_one (sd := true) (hc.lt j (hsub.subset hj)) (hc.lt k (hsub.subset hk)) e (by rw [h1, h2])
  have l1 := pig (lo := 0) (n := s.O.toNat) (nodup_map (hpw a)) fun x hx => by
    obtain ⟨k, hk, rfl⟩ := List.mem_map.1 hx
    have := hr k (List.mem_filter.1 hk).1
    omega
  have l2 := pig (lo := 0) (n := s.O.toNat) (xs := B :: (ch.filter fun k => (gc cs k).v = b).map fun k => sw s true (gc cs k)) (List.nodup_cons.2 ⟨fun hm => by
      obtain ⟨k, hk, e⟩ := List.mem_map.1 hm
      exact hB k (hc.lt k (List.mem_filter.1 hk).1) e (by simpa using (List.mem_filter.1 hk).2), nodup_map (hpw b)⟩) fun x hx => by
    rcases List.mem_cons.1 hx with rfl | hx
    · omega
    · obtain ⟨k, hk, rfl⟩ := List.mem_map.1 hx
      have := hr k (List.mem_filter.1 hk).1
      omega
  simp only [List.length_map, List.length_cons] at l1 l2
  have hsum : ∀ (xs : List Nat), (∀ k ∈ xs, (gc cs k).v = a ∨ (gc cs k).v = b) → xs.length ≤ (xs.filter fun k => (gc cs k).v = a).length + (xs.filter fun k => (gc cs k).v = b).length := fun xs => by
    induction xs with
    | nil => intro _; simp
    | cons k xs ih =>
      intro hk
      have := ih fun l hl => hk l (by simp [hl])
      rcases hk k (by simp) with e | e
      · have hne : ¬ (gc cs k).v = b := fun e2 => hab (e.symm.trans e2)
        rw [List.filter_cons_of_pos (by simpa using e), List.filter_cons_of_neg (by simpa using hne)]
        simp only [List.length_cons]; omega
      · have hne : ¬ (gc cs k).v = a := fun e2 => hab (e2.symm.trans e)
        rw [List.filter_cons_of_neg (by simpa using hne), List.filter_cons_of_pos (by simpa using e)]
        simp only [List.length_cons]; omega
  have := hsum ch hc.ab
  omega

/-- the calls, those of a chain moved -/
def flip (a b : Int) (ch : List Nat) (cs : List Cl) : List Cl := cs.mapIdx fun k c => if k ∈ ch then ⟨c.i, c.o, a + b - c.v⟩ else c
theorem flip_length (a b : Int) (ch : List Nat) (cs : List Cl) : (flip a b ch cs).length = cs.length := by simp [flip]
theorem flip_some {a b : Int} {ch : List Nat} {cs : List Cl} {k : Nat} {c : Cl} (h : (flip a b ch cs)[k]? = some c) : k < cs.length ∧ c.i = (gc cs k).i ∧ c.o = (gc cs k).o ∧ ((k ∈ ch ∧ c.v = a + b - (gc cs k).v) ∨ (k ∉ ch ∧ c.v = (gc cs k).v)) := by
  have hk : k < cs.length := by
    have := (List.getElem?_eq_some_iff.1 h).1
    rwa [flip_length] at this
  unfold flip at h
  rw [List.getElem?_mapIdx, gc_some hk] at h
  simp only [Option.map_some, Option.some.injEq] at h
  subst h
  refine ⟨hk, ?_⟩
  by_cases hm : k ∈ ch
  · simp [hm]
  · simp [hm]
theorem flip_gc {a b : Int} {ch : List Nat} {cs : List Cl} {k : Nat} (hk : k < cs.length) : gc (flip a b ch cs) k = if k ∈ ch then ⟨(gc cs k).i, (gc cs k).o, a + b - (gc cs k).v⟩ else gc cs k := by
  have h1 := gc_some (cs := flip a b ch cs) (k := k) (by rw [flip_length]; exact hk)
  unfold flip at h1
  rw [List.getElem?_mapIdx, gc_some hk] at h1
  simp only [Option.map_some, Option.some.injEq] at h1
  exact h1.symm

/-- with the chain moved the further call is possible -/
theorem flip_CV {s : Sp} {cs : List Cl} {a b i o : Int} {ch : List Nat} (h : CV s cs) (hl : Lines s i o) (hb : ¬ Busy cs i o) (ha : 0 ≤ a ∧ a ≤ s.M - 1) (hb2 : 0 ≤ b ∧ b ≤ s.M - 1)
    (hA : a ∉ usedI s cs (i / s.E)) (hB : b ∉ usedO s cs (o / s.E)) (hc : Closed s cs a b (o / s.E) ch) : CV s (flip a b ch cs ++ [⟨i, o, a⟩]) := by
  have hAk : ∀ k, k < cs.length → sw s false (gc cs k) = i / s.E → (gc cs k).v ≠ a := fun k hk e e2 => hA (mem_usedI.2 ⟨_, gc_mem hk, e, e2⟩)
  have hBk : ∀ k, k < cs.length → sw s true (gc cs k) = o / s.E → (gc cs k).v ≠ b := fun k hk e e2 => hB (mem_usedO.2 ⟨_, gc_mem hk, e, e2⟩)
  rw [CV_snoc]
  refine ⟨CV.of_index h.1 (fun c hcm => ?_) (fun k l c d hk hl2 hlt hh => ?_), ⟨hl.1, hl.2, ha⟩, fun d hd hh => ?_⟩
  · obtain ⟨k, hk⟩ := List.mem_iff_getElem?.1 hcm
    obtain ⟨hk1, e1, e2, e3⟩ := flip_some hk
    have hr := h.2.1 _ (gc_mem hk1)
    refine ⟨by rw [e1]; exact hr.1, by rw [e2]; exact hr.2.1, ?_⟩
    rcases e3 with ⟨hm, e3⟩ | ⟨hm, e3⟩
    · rw [e3]
      rcases hc.ab k hm with e | e <;> rw [e]
      · rw [show a + b - a = b by omega]; exact hb2
      · rw [show a + b - b = a by omega]; exact ha
    · rw [e3]; exact hr.2.2
  · obtain ⟨hk1, e1, e2, e3⟩ := flip_some hk
    obtain ⟨hl1, f1, f2, f3⟩ := flip_some hl2
    have hno := h.two (gc_some hk1) (gc_some hl1) (by omega)
    have key : ∀ t, sw s t (gc cs k) = sw s t (gc cs l) → c.v = d.v → False := fun t ht hv => by
      rcases e3 with ⟨m1, e3⟩ | ⟨m1, e3⟩ <;> rcases f3 with ⟨m2, f3⟩ | ⟨m2, f3⟩
      · exact hno (hit_sw (sd := t) ht (by omega))
      · exact m2 (hc.cl k m1 t l hl1 ht.symm (by omega))
      · exact m1 (hc.cl l m2 t k hk1 ht (by omega))
      · exact hno (hit_sw (sd := t) ht (by omega))
    rcases hh with e | e | ⟨e, g | g⟩
    · exact hno (.inl (by rw [← e1, ← f1]; exact e))
    · exact hno (.inr (.inl (by rw [← e2, ← f2]; exact e)))
    · exact key false (by rw [e1, f1] at g; exact g) e
    · exact key true (by rw [e2, f2] at g; exact g) e
  · obtain ⟨k, hk⟩ := List.mem_iff_getElem?.1 hd
    obtain ⟨hk1, e1, e2, e3⟩ := flip_some hk
    rcases hh with e | e | ⟨e, g⟩
    · exact hb ⟨_, gc_mem hk1, .inl (by rw [← e1]; exact e.symm)⟩
    · exact hb ⟨_, gc_mem hk1, .inr (by rw [← e2]; exact e.symm)⟩
    · rcases e3 with ⟨m1, e3⟩ | ⟨m1, e3⟩
      · have hv : (gc cs k).v = b := by have : a = a + b - (gc cs k).v := e.trans e3; omega
        rcases g with g | g
        · obtain ⟨m, hm, h1, h2⟩ := hc.from_ k m1 hv
          exact hAk m (hc.lt m hm) (by rw [h2]; rw [e1] at g; exact g.symm) h1
        · exact hBk k hk1 (by rw [e2] at g; exact g.symm) hv
      · have hv : (gc cs k).v = a := (e.trans e3).symm
        rcases g with g | g
        · exact hAk k hk1 (by rw [e1] at g; exact g.symm) hv
        · exact m1 (hc.st k hk1 ⟨by rw [e2] at g; exact g.symm, hv⟩)
end Go.Clos
